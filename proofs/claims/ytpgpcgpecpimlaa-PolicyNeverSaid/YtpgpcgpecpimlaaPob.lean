/-
  A tenant laid.
-/
import Derived.Test.YtpgpcgpecpimlaaPoa
import Derived.Test.YtpgpcgpecpimlaaPo2
import Derived.Deep.RegionLaw
namespace Go.Proofs.Ytpgpcgpecpimlaa
open Go.RowKit
set_option linter.unusedSimpArgs false
set_option linter.unusedVariables false

theorem okL_lay {L : List TnE} {x : TnE} (h : okL L) (hx : x.ok) (p q : Nat) : okL (L.take p ++ x :: L.drop q) := by
  intro y hy
  rcases List.mem_append.1 hy with h1 | h1
  · exact h y (List.mem_of_mem_take h1)
  · rcases List.mem_cons.1 h1 with rfl | h2
    · exact hx
    · exact h y (List.mem_of_mem_drop h2)
set_option maxRecDepth 100000 in
set_option maxHeartbeats 4000000 in
theorem lay_any (v : Value) (L : List TnE) (x : TnE) (w : World) (h : TV w v L) (hn : L.length ≤ 200) (hx : x.ok) : Calls Try.prog 80 #[v, x.agg] w fun e w' => ∃ v', e = .returned v' ∧ TVo w.heap.size w' v' (layL x L) ∧ Below w.heap.size w w' := by
  have HOK := Lib.hid h.ok
  obtain ⟨N, hN⟩ : ∃ N, N = w.heap.size := ⟨_, rfl⟩
  obtain ⟨W1, hW1⟩ : ∃ W1, W1 = w.alloc (.cells #[.int .i64 x.id, .int .i64 x.rate, .int .i64 x.burst, .int .i64 x.bkt, .bool x.gone] 72) := ⟨_, rfl⟩
  have hB1 : Below w.heap.size w W1 := by rw [hW1]; exact (Below.refl _ _).alloc (Nat.le_refl _) _
  have HK1 : Hid (Blk W1 N #[.int .i64 x.id, .int .i64 x.rate, .int .i64 x.burst, .int .i64 x.bkt, .bool x.gone] 72) := Lib.hid (by rw [hW1, hN]; exact blk_new _ _ _)
  have HV1 := Lib.hid (h.below hB1)
  have HB1 := Lib.hid hB1
  have HNB : Hid (w.heap.size ≤ N) := Lib.hid (by rw [hN]; exact Nat.le_refl _)
  clear hB1 h
  have HPL := Lib.hid (place_any v L x.id W1 HV1.out)
  have HXO := Lib.hid hx
  clear hx
  have q0 : W1.cell? ⟨N, 0, none⟩ = some (.int .i64 x.id) := cell_at HK1.out 0
  have q1 : W1.cell? ⟨N, 1, none⟩ = some (.int .i64 x.rate) := cell_at HK1.out 1
  have q2 : W1.cell? ⟨N, 2, none⟩ = some (.int .i64 x.burst) := cell_at HK1.out 2
  have q3 : W1.cell? ⟨N, 3, none⟩ = some (.int .i64 x.bkt) := cell_at HK1.out 3
  have q4 : W1.cell? ⟨N, 4, none⟩ = some (.bool x.gone) := cell_at HK1.out 4
  have zq : ∀ j, W1.frozen? ⟨N, j, none⟩ = false := fun j => free_at HK1.out j
  have lq : N < W1.heap.size := HK1.out.lt
  obtain ⟨p, hp⟩ : ∃ p, p = plc x.id L := ⟨_, rfl⟩
  have hpn : p ≤ L.length := by rw [hp]; exact plc_le _ _
  have HA := Lib.hid (isAt_eq x.id L)
  have HLY : Hid (layL x L = L.take p ++ x :: L.drop (p + if isAt x.id L then 1 else 0)) := Lib.hid (by rw [hp]; rfl)
  rw [← hp] at HPL HA
  obtain ⟨Y, hY⟩ : ∃ Y, Y = layL x L := ⟨_, rfl⟩
  rw [← hY] at HLY ⊢
  obtain ⟨C, hC⟩ : ∃ C, C = isAt x.id L := ⟨_, rfl⟩
  rw [← hC] at HA HPL HLY
  clear hp hY hC
  obtain ⟨a, b, o, cap, rfl, h⟩ := HV1.out
  have m1 := h.le
  have m2 := h.max
  unfold maxLen at m2
  have H1 := Lib.hid h
  clear h
  obtain ⟨n, hn⟩ : ∃ n, n = L.length := ⟨_, rfl⟩
  have HN := Lib.hid hn
  rw [← hn] at m1 H1 HPL HA hpn ⊢
  clear hn HV1
  unfold TnE.agg
  go_enter Try.func80, Try.ntmps80
  go_upto_region 1 with fail
  rw [← hN, ← hW1]
  clear hN hW1
  go_wp2_with fail
  go_at_call 96
  refine Calls.mono HPL.out ?_
  rintro e W2 ⟨rfl, hB2⟩
  have HK2 := Lib.hid (HK1.out.step hB2)
  have HB2 := Lib.hid (HB1.out.trans (hB2.mono HB1.out.size))
  have HT2 := Lib.hid (H1.out.below hB2)
  clear hB2 HB1 q0 q1 q2 q3 q4 zq lq
  have HPC : Hid True := Lib.hid trivial
  have hpc : (p ≤ cap) = True := eq_true (by omega)
  have HOM : Hid (N < W2.heap.size) := Lib.hid HK2.out.lt
  have HKd : Hid (Blk W2.drew N #[.int .i64 x.id, .int .i64 x.rate, .int .i64 x.burst, .int .i64 x.bkt, .bool x.gone] 72) := Lib.hid (HK2.out.step ((Below.refl _ _).drew))
  cases C
  · cases a with
    | none =>
      obtain rfl : n = 0 := by
        rcases Nat.eq_zero_or_pos n with h | h
        · exact h
        · exact absurd (H1.out.at_ h).1 (by simp)
      obtain rfl : p = 0 := by omega
      go_upto_region 5 with fail
      refine wp_region_held_drew (S := fun X => X.cell? ⟨N, 0, none⟩ = some (.int .i64 x.id) ∧ X.cell? ⟨N, 1, none⟩ = some (.int .i64 x.rate) ∧ X.cell? ⟨N, 2, none⟩ = some (.int .i64 x.burst) ∧ X.cell? ⟨N, 3, none⟩ = some (.int .i64 x.bkt) ∧ X.cell? ⟨N, 4, none⟩ = some (.bool x.gone) ∧ N < X.heap.size) (by kernel_rfl) ⟨cell_at HKd.out 0, cell_at HKd.out 1, cell_at HKd.out 2, cell_at HKd.out 3, cell_at HKd.out 4, HKd.out.lt⟩ (fun hHeld => ?_)
      ((refine wpAnyH_take (i := 0) (v := ?_) (by (simp only [List.getElem?_toArray, List.getElem?_cons_succ, List.getElem?_cons_zero]); rfl) (by kernel_rfl) (by kernel_rfl) (by kernel_rfl) (by exact fun _ _ _ h => h) (Or.inl ⟨by rfl, ?_⟩) (by assumption) ?_); rotate_left; focus (intro wS hSw; (try dsimp only at hSw); go_simp; first | done | with_reducible rfl); try simp only [Act.put, List.setIfInBounds_toArray, List.set_cons_zero, List.set_cons_succ])
      ((refine wpAnyH_take (i := 1) (v := ?_) (by (simp only [List.getElem?_toArray, List.getElem?_cons_succ, List.getElem?_cons_zero]); rfl) (by kernel_rfl) (by kernel_rfl) (by kernel_rfl) (by exact fun _ _ _ h => h) (Or.inl ⟨by rfl, ?_⟩) (by assumption) ?_); rotate_left; focus (intro wS hSw; (try dsimp only at hSw); go_simp; first | done | with_reducible rfl); try simp only [Act.put, List.setIfInBounds_toArray, List.set_cons_zero, List.set_cons_succ])
      ((refine wpAnyH_take (i := 2) (v := ?_) (by (simp only [List.getElem?_toArray, List.getElem?_cons_succ, List.getElem?_cons_zero]); rfl) (by kernel_rfl) (by kernel_rfl) (by kernel_rfl) (by exact fun _ _ _ h => h) (Or.inl ⟨by rfl, ?_⟩) (by assumption) ?_); rotate_left; focus (intro wS hSw; (try dsimp only at hSw); go_simp; first | done | with_reducible rfl); try simp only [Act.put, List.setIfInBounds_toArray, List.set_cons_zero, List.set_cons_succ])
      ((refine wpAnyH_take (i := 3) (v := ?_) (by (simp only [List.getElem?_toArray, List.getElem?_cons_succ, List.getElem?_cons_zero]); rfl) (by kernel_rfl) (by kernel_rfl) (by kernel_rfl) (by exact fun _ _ _ h => h) (Or.inl ⟨by rfl, ?_⟩) (by assumption) ?_); rotate_left; focus (intro wS hSw; (try dsimp only at hSw); go_simp; first | done | with_reducible rfl); try simp only [Act.put, List.setIfInBounds_toArray, List.set_cons_zero, List.set_cons_succ])
      ((refine wpAnyH_take (i := 4) (v := ?_) (by (simp only [List.getElem?_toArray, List.getElem?_cons_succ, List.getElem?_cons_zero]); rfl) (by kernel_rfl) (by kernel_rfl) (by kernel_rfl) (by exact fun _ _ _ h => h) (Or.inl ⟨by rfl, ?_⟩) (by assumption) ?_); rotate_left; focus (intro wS hSw; (try dsimp only at hSw); go_simp; first | done | with_reducible rfl); try simp only [Act.put, List.setIfInBounds_toArray, List.set_cons_zero, List.set_cons_succ])
      ((refine wpAnyH_take (i := 7) (v := ?_) (by (simp only [List.getElem?_toArray, List.getElem?_cons_succ, List.getElem?_cons_zero]); rfl) (by kernel_rfl) (by kernel_rfl) (by kernel_rfl) (by exact fun _ _ _ h => h) (Or.inl ⟨by rfl, ?_⟩) (by assumption) ?_); rotate_left; focus (intro wS hSw; (try dsimp only at hSw); go_simp; first | done | with_reducible rfl); try simp only [Act.put, List.setIfInBounds_toArray, List.set_cons_zero, List.set_cons_succ])
      refine wpAnyH_ready (rs := [5]) (by kernel_rfl) (by simp) ?_
      refine AllReadyH.cons (by (simp only [List.getElem?_toArray, List.getElem?_cons_succ, List.getElem?_cons_zero]); rfl) (fun K hK => ?_) AllReadyH.nil
      go_simp
      obtain ⟨M, hM⟩ : ∃ M, M = W2.heap.size := ⟨_, rfl⟩
      obtain ⟨W4, hW4⟩ : ∃ W4, W4 = (W2.alloc (.cells #[.int .i64 x.id, .int .i64 x.rate, .int .i64 x.burst, .int .i64 x.bkt, .bool x.gone] 72)).drew := ⟨_, rfl⟩
      have hB4 : Below W2.heap.size W2 W4 := by rw [hW4]; exact ((Below.refl _ _).alloc (Nat.le_refl _) _).drew
      have hnew : ∀ j u, x.cells[j]? = some u → W4.cell? ((⟨M, 0, none⟩ : Addr).add j) = some u := fun j u h => by
        have hb : Blk W4 M #[.int .i64 x.id, .int .i64 x.rate, .int .i64 x.burst, .int .i64 x.bkt, .bool x.gone] 72 := by rw [hW4, hM]; exact (blk_new W2 _ _).step ((Below.refl _ _).drew)
        rw [addr_add, Nat.zero_add, cell_at hb j]
        simpa [TnE.cells] using h
      have HNEW := Lib.hid hnew
      have HK4 := Lib.hid (HK2.out.step hB4)
      have HT4 := Lib.hid (HT2.out.below hB4)
      have HB24 := Lib.hid hB4
      have HB4 := Lib.hid (HB2.out.trans (hB4.mono HB2.out.size))
      rw [← hM, ← hW4]
      clear hM hW4 hnew hB4
      refine hK.out _ _ ⟨cell_at HK4.out 0, cell_at HK4.out 1, cell_at HK4.out 2, cell_at HK4.out 3, cell_at HK4.out 4, HK4.out.lt⟩ (fun hHeld => ?_)
      clear hK K
      try simp only [Act.put, List.setIfInBounds_toArray, List.set_cons_zero, List.set_cons_succ]
      refine wpAnyH_ready (rs := [6]) (by kernel_rfl) (by simp) ?_
      refine AllReadyH.cons (by (simp only [List.getElem?_toArray, List.getElem?_cons_succ, List.getElem?_cons_zero]); rfl) (fun K hK => ?_) AllReadyH.nil
      rw [if_pos (by rfl)]
      obtain ⟨v5, ob5, W5, hrun5, hrow5, hg5, hob5⟩ := app_full (W := W4) (ty := 60) (ao := none) (k := 0) (L1 := []) (M := M) (x := x) rfl (by omega) (fun _ => rfl) (fun q e => by cases e) HNEW.out
      refine op_append_run (.tmp 24) (.tmp 26) 60 rfl rfl rfl hrun5 ?_
      have hB5 : Below w.heap.size w W5 := HB4.out.grown hg5 HB4.out.size (by simp)
      have HB5 := Lib.hid hB5
      have HB25 : Hid (Below W2.heap.size W2 W5) := Lib.hid (HB24.out.grown hg5 HB24.out.size (by simp))
      have HK5 := Lib.hid (show Blk W5 N #[.int .i64 x.id, .int .i64 x.rate, .int .i64 x.burst, .int .i64 x.bkt, .bool x.gone] 72 from (hg5.block N HK4.out.lt (by simp)).trans HK4.out)
      have HT5 : Hid (TnIn W5 none 0 cap b o (gt L)) := Lib.hid (HT4.out.below ((Below.refl W4.heap.size W4).grown hg5 (Nat.le_refl _) (by simp)))
      have HR5 := Lib.hid hrow5
      have HO5b : Hid (N < ob5) := Lib.hid (by have := HK4.out.lt; omega)
      have HO5 : Hid (w.heap.size ≤ ob5) := Lib.hid (by have := HB4.out.size; omega)
      clear hrun5 hrow5 hg5 hob5 hB5
      refine hK.out _ _ ⟨cell_at HK5.out 0, cell_at HK5.out 1, cell_at HK5.out 2, cell_at HK5.out 3, cell_at HK5.out 4, HK5.out.lt⟩ (fun hHeld => ?_)
      clear hK K
      try simp only [Act.put, List.setIfInBounds_toArray, List.set_cons_zero, List.set_cons_succ]
      refine wpAnyH_ready (rs := [8]) (by kernel_rfl) (by simp) ?_
      refine AllReadyH.cons (by (simp only [List.getElem?_toArray, List.getElem?_cons_succ, List.getElem?_cons_zero]); rfl) (fun K hK => ?_) AllReadyH.nil
      rw [if_pos (by rfl)]
      obtain ⟨v6, ob6, W6, hrun6, hrow6, hg6, hob6⟩ := app_row (W := W5) (ty := 60) (L2 := []) (a2 := none) (m := 0) (c := cap) HR5.out rfl ((⟨rfl, fun h => absurd h (by omega)⟩ : PcT W5 none 0 cap [])) (by have := HN.out; first | (simp; done) | (simp; omega))
      refine op_append_run (.tmp 27) (.tmp 28) 60 rfl rfl rfl hrun6 ?_
      have hB6 : Below w.heap.size w W6 := HB5.out.grown hg6 HB5.out.size (fun g e => by obtain rfl := Option.some.inj e; exact HO5.out)
      have HB6 := Lib.hid hB6
      have hK6 : Blk W6 N #[.int .i64 x.id, .int .i64 x.rate, .int .i64 x.burst, .int .i64 x.bkt, .bool x.gone] 72 := (hg6.block N HK5.out.lt (fun e => by have := Option.some.inj e; exact absurd this (by have := HO5b.out; omega))).trans HK5.out
      have HK6 := Lib.hid hK6
      have HO6 : Hid (w.heap.size ≤ ob6) := Lib.hid (by
        rcases hob6 with h | h
        · rw [h]; exact HO5.out
        · have := HB5.out.size; omega)
      have HR6 := Lib.hid hrow6
      clear hrun6 hrow6 hg6 hob6 hB6 hK6
      refine hK.out _ _ ⟨cell_at HK6.out 0, cell_at HK6.out 1, cell_at HK6.out 2, cell_at HK6.out 3, cell_at HK6.out 4, HK6.out.lt⟩ (fun hHeld => ?_)
      clear hK K
      try simp only [Act.put, List.setIfInBounds_toArray, List.set_cons_zero, List.set_cons_succ]
      ((refine wpAnyH_take (i := 9) (v := ?_) (by (simp only [List.getElem?_toArray, List.getElem?_cons_succ, List.getElem?_cons_zero]); rfl) (by kernel_rfl) (by kernel_rfl) (by kernel_rfl) (by exact fun _ _ _ h => h) (Or.inl ⟨by rfl, ?_⟩) (by assumption) ?_); rotate_left; focus (intro wS hSw; (try dsimp only at hSw); go_simp; first | done | with_reducible rfl); try simp only [Act.put, List.setIfInBounds_toArray, List.set_cons_zero, List.set_cons_succ])
      refine wpAnyH_done (by kernel_rfl) ?_ _
      go_wp2_with fail
      go_ret
      refine ⟨v6, rfl, tvo_row (by rw [HLY.out, show L = [] from List.eq_nil_of_length_eq_zero HN.out.symm]; exact HR6.out) ?_ (fun g e => by obtain rfl := Option.some.inj e; exact HO6.out), HB6.out⟩
      rw [HLY.out]
      exact okL_lay HOK.out HXO.out _ _
    | some q =>
      go_upto_region 5 with fail
      obtain ⟨ad, had⟩ : ∃ ad : Option Addr, ad = (if cap = p then some q else some (q.add (p * 5))) := ⟨_, rfl⟩
      rw [← had]
      have HPCT : Hid (PcT W2 ad (n - p) (cap - p) (L.drop p)) := Lib.hid (pct_drop HT2.out HN.out p hpn ad (fun h e => by rw [had, if_neg (by omega), e, addr_add]))
      clear had
      refine wp_region_held_drew (S := fun X => X.cell? ⟨N, 0, none⟩ = some (.int .i64 x.id) ∧ X.cell? ⟨N, 1, none⟩ = some (.int .i64 x.rate) ∧ X.cell? ⟨N, 2, none⟩ = some (.int .i64 x.burst) ∧ X.cell? ⟨N, 3, none⟩ = some (.int .i64 x.bkt) ∧ X.cell? ⟨N, 4, none⟩ = some (.bool x.gone) ∧ N < X.heap.size) (by kernel_rfl) ⟨cell_at HKd.out 0, cell_at HKd.out 1, cell_at HKd.out 2, cell_at HKd.out 3, cell_at HKd.out 4, HKd.out.lt⟩ (fun hHeld => ?_)
      ((refine wpAnyH_take (i := 0) (v := ?_) (by (simp only [List.getElem?_toArray, List.getElem?_cons_succ, List.getElem?_cons_zero]); rfl) (by kernel_rfl) (by kernel_rfl) (by kernel_rfl) (by exact fun _ _ _ h => h) (Or.inl ⟨by rfl, ?_⟩) (by assumption) ?_); rotate_left; focus (intro wS hSw; (try dsimp only at hSw); go_simp; first | done | with_reducible rfl); try simp only [Act.put, List.setIfInBounds_toArray, List.set_cons_zero, List.set_cons_succ])
      ((refine wpAnyH_take (i := 1) (v := ?_) (by (simp only [List.getElem?_toArray, List.getElem?_cons_succ, List.getElem?_cons_zero]); rfl) (by kernel_rfl) (by kernel_rfl) (by kernel_rfl) (by exact fun _ _ _ h => h) (Or.inl ⟨by rfl, ?_⟩) (by assumption) ?_); rotate_left; focus (intro wS hSw; (try dsimp only at hSw); go_simp; first | done | with_reducible rfl); try simp only [Act.put, List.setIfInBounds_toArray, List.set_cons_zero, List.set_cons_succ])
      ((refine wpAnyH_take (i := 2) (v := ?_) (by (simp only [List.getElem?_toArray, List.getElem?_cons_succ, List.getElem?_cons_zero]); rfl) (by kernel_rfl) (by kernel_rfl) (by kernel_rfl) (by exact fun _ _ _ h => h) (Or.inl ⟨by rfl, ?_⟩) (by assumption) ?_); rotate_left; focus (intro wS hSw; (try dsimp only at hSw); go_simp; first | done | with_reducible rfl); try simp only [Act.put, List.setIfInBounds_toArray, List.set_cons_zero, List.set_cons_succ])
      ((refine wpAnyH_take (i := 3) (v := ?_) (by (simp only [List.getElem?_toArray, List.getElem?_cons_succ, List.getElem?_cons_zero]); rfl) (by kernel_rfl) (by kernel_rfl) (by kernel_rfl) (by exact fun _ _ _ h => h) (Or.inl ⟨by rfl, ?_⟩) (by assumption) ?_); rotate_left; focus (intro wS hSw; (try dsimp only at hSw); go_simp; first | done | with_reducible rfl); try simp only [Act.put, List.setIfInBounds_toArray, List.set_cons_zero, List.set_cons_succ])
      ((refine wpAnyH_take (i := 4) (v := ?_) (by (simp only [List.getElem?_toArray, List.getElem?_cons_succ, List.getElem?_cons_zero]); rfl) (by kernel_rfl) (by kernel_rfl) (by kernel_rfl) (by exact fun _ _ _ h => h) (Or.inl ⟨by rfl, ?_⟩) (by assumption) ?_); rotate_left; focus (intro wS hSw; (try dsimp only at hSw); go_simp; first | done | with_reducible rfl); try simp only [Act.put, List.setIfInBounds_toArray, List.set_cons_zero, List.set_cons_succ])
      ((refine wpAnyH_take (i := 7) (v := ?_) (by (simp only [List.getElem?_toArray, List.getElem?_cons_succ, List.getElem?_cons_zero]); rfl) (by kernel_rfl) (by kernel_rfl) (by kernel_rfl) (by exact fun _ _ _ h => h) (Or.inl ⟨by rfl, ?_⟩) (by assumption) ?_); rotate_left; focus (intro wS hSw; (try dsimp only at hSw); go_simp; first | done | with_reducible rfl); try simp only [Act.put, List.setIfInBounds_toArray, List.set_cons_zero, List.set_cons_succ])
      refine wpAnyH_ready (rs := [5]) (by kernel_rfl) (by simp) ?_
      refine AllReadyH.cons (by (simp only [List.getElem?_toArray, List.getElem?_cons_succ, List.getElem?_cons_zero]); rfl) (fun K hK => ?_) AllReadyH.nil
      go_simp
      obtain ⟨M, hM⟩ : ∃ M, M = W2.heap.size := ⟨_, rfl⟩
      obtain ⟨W4, hW4⟩ : ∃ W4, W4 = (W2.alloc (.cells #[.int .i64 x.id, .int .i64 x.rate, .int .i64 x.burst, .int .i64 x.bkt, .bool x.gone] 72)).drew := ⟨_, rfl⟩
      have hB4 : Below W2.heap.size W2 W4 := by rw [hW4]; exact ((Below.refl _ _).alloc (Nat.le_refl _) _).drew
      have hnew : ∀ j u, x.cells[j]? = some u → W4.cell? ((⟨M, 0, none⟩ : Addr).add j) = some u := fun j u h => by
        have hb : Blk W4 M #[.int .i64 x.id, .int .i64 x.rate, .int .i64 x.burst, .int .i64 x.bkt, .bool x.gone] 72 := by rw [hW4, hM]; exact (blk_new W2 _ _).step ((Below.refl _ _).drew)
        rw [addr_add, Nat.zero_add, cell_at hb j]
        simpa [TnE.cells] using h
      have HNEW := Lib.hid hnew
      have HK4 := Lib.hid (HK2.out.step hB4)
      have HT4 := Lib.hid (HT2.out.below hB4)
      have HB24 := Lib.hid hB4
      have HB4 := Lib.hid (HB2.out.trans (hB4.mono HB2.out.size))
      rw [← hM, ← hW4]
      clear hM hW4 hnew hB4
      refine hK.out _ _ ⟨cell_at HK4.out 0, cell_at HK4.out 1, cell_at HK4.out 2, cell_at HK4.out 3, cell_at HK4.out 4, HK4.out.lt⟩ (fun hHeld => ?_)
      clear hK K
      try simp only [Act.put, List.setIfInBounds_toArray, List.set_cons_zero, List.set_cons_succ]
      refine wpAnyH_ready (rs := [6]) (by kernel_rfl) (by simp) ?_
      refine AllReadyH.cons (by (simp only [List.getElem?_toArray, List.getElem?_cons_succ, List.getElem?_cons_zero]); rfl) (fun K hK => ?_) AllReadyH.nil
      rw [if_pos (by rfl)]
      obtain ⟨v5, ob5, W5, hrun5, hrow5, hg5, hob5⟩ := app_full (W := W4) (ty := 60) (ao := (some q)) (k := p) (L1 := (L.take p)) (M := M) (x := x) (by have := HN.out; simp; omega) (by have := HN.out; omega) (fun e => by cases e) (full_take HT4.out HN.out p hpn) HNEW.out
      refine op_append_run (.tmp 24) (.tmp 26) 60 rfl rfl rfl hrun5 ?_
      have hB5 : Below w.heap.size w W5 := HB4.out.grown hg5 HB4.out.size (by simp)
      have HB5 := Lib.hid hB5
      have HB25 : Hid (Below W2.heap.size W2 W5) := Lib.hid (HB24.out.grown hg5 HB24.out.size (by simp))
      have HK5 := Lib.hid (show Blk W5 N #[.int .i64 x.id, .int .i64 x.rate, .int .i64 x.burst, .int .i64 x.bkt, .bool x.gone] 72 from (hg5.block N HK4.out.lt (by simp)).trans HK4.out)
      have HT5 : Hid (TnIn W5 (some q) n cap b o (gt L)) := Lib.hid (HT4.out.below ((Below.refl W4.heap.size W4).grown hg5 (Nat.le_refl _) (by simp)))
      have HR5 := Lib.hid hrow5
      have HO5b : Hid (N < ob5) := Lib.hid (by have := HK4.out.lt; omega)
      have HO5 : Hid (w.heap.size ≤ ob5) := Lib.hid (by have := HB4.out.size; omega)
      clear hrun5 hrow5 hg5 hob5 hB5
      refine hK.out _ _ ⟨cell_at HK5.out 0, cell_at HK5.out 1, cell_at HK5.out 2, cell_at HK5.out 3, cell_at HK5.out 4, HK5.out.lt⟩ (fun hHeld => ?_)
      clear hK K
      try simp only [Act.put, List.setIfInBounds_toArray, List.set_cons_zero, List.set_cons_succ]
      refine wpAnyH_ready (rs := [8]) (by kernel_rfl) (by simp) ?_
      refine AllReadyH.cons (by (simp only [List.getElem?_toArray, List.getElem?_cons_succ, List.getElem?_cons_zero]); rfl) (fun K hK => ?_) AllReadyH.nil
      rw [if_pos (by rfl)]
      obtain ⟨v6, ob6, W6, hrun6, hrow6, hg6, hob6⟩ := app_row (W := W5) (ty := 60) (L2 := (L.drop p)) (a2 := ad) (m := (n - p)) (c := (cap - p)) HR5.out rfl ((HPCT.out.below ((Below.refl W2.heap.size W2).trans (HB25.out)))) (by have := HN.out; first | (simp; done) | (simp; omega))
      refine op_append_run (.tmp 27) (.tmp 28) 60 rfl rfl rfl hrun6 ?_
      have hB6 : Below w.heap.size w W6 := HB5.out.grown hg6 HB5.out.size (fun g e => by obtain rfl := Option.some.inj e; exact HO5.out)
      have HB6 := Lib.hid hB6
      have hK6 : Blk W6 N #[.int .i64 x.id, .int .i64 x.rate, .int .i64 x.burst, .int .i64 x.bkt, .bool x.gone] 72 := (hg6.block N HK5.out.lt (fun e => by have := Option.some.inj e; exact absurd this (by have := HO5b.out; omega))).trans HK5.out
      have HK6 := Lib.hid hK6
      have HO6 : Hid (w.heap.size ≤ ob6) := Lib.hid (by
        rcases hob6 with h | h
        · rw [h]; exact HO5.out
        · have := HB5.out.size; omega)
      have HR6 := Lib.hid hrow6
      clear hrun6 hrow6 hg6 hob6 hB6 hK6
      refine hK.out _ _ ⟨cell_at HK6.out 0, cell_at HK6.out 1, cell_at HK6.out 2, cell_at HK6.out 3, cell_at HK6.out 4, HK6.out.lt⟩ (fun hHeld => ?_)
      clear hK K
      try simp only [Act.put, List.setIfInBounds_toArray, List.set_cons_zero, List.set_cons_succ]
      ((refine wpAnyH_take (i := 9) (v := ?_) (by (simp only [List.getElem?_toArray, List.getElem?_cons_succ, List.getElem?_cons_zero]); rfl) (by kernel_rfl) (by kernel_rfl) (by kernel_rfl) (by exact fun _ _ _ h => h) (Or.inl ⟨by rfl, ?_⟩) (by assumption) ?_); rotate_left; focus (intro wS hSw; (try dsimp only at hSw); go_simp; first | done | with_reducible rfl); try simp only [Act.put, List.setIfInBounds_toArray, List.set_cons_zero, List.set_cons_succ])
      refine wpAnyH_done (by kernel_rfl) ?_ _
      go_wp2_with fail
      go_ret
      refine ⟨v6, rfl, tvo_row (by rw [HLY.out]; simpa using HR6.out) ?_ (fun g e => by obtain rfl := Option.some.inj e; exact HO6.out), HB6.out⟩
      rw [HLY.out]
      exact okL_lay HOK.out HXO.out _ _
  · have hpn2 : p < n := by have := HA.out; simp at this; exact this.1
    obtain ⟨e0, e1⟩ := H1.out.at_ (by omega)
    subst e0
    go_upto_region 5 with fail
    obtain ⟨ad, had⟩ : ∃ ad : Option Addr, ad = (if cap - p = 1 then some ⟨b, o + p * 5, none⟩ else some ⟨b, o + p * 5 + 5, none⟩) := ⟨_, rfl⟩
    rw [← had]
    have HPCT : Hid (PcT W2 ad (n - p - 1) (cap - p - 1) (L.drop (p + 1))) := Lib.hid (by
      rw [show n - p - 1 = n - (p + 1) by omega]
      exact pct_drop HT2.out HN.out (p + 1) (by omega) ad (fun h e => by rw [had, if_neg (by omega), show o + p * 5 + 5 = o + (p + 1) * 5 by omega]))
    clear had
    refine wp_region_held_drew (S := fun X => X.cell? ⟨N, 0, none⟩ = some (.int .i64 x.id) ∧ X.cell? ⟨N, 1, none⟩ = some (.int .i64 x.rate) ∧ X.cell? ⟨N, 2, none⟩ = some (.int .i64 x.burst) ∧ X.cell? ⟨N, 3, none⟩ = some (.int .i64 x.bkt) ∧ X.cell? ⟨N, 4, none⟩ = some (.bool x.gone) ∧ N < X.heap.size) (by kernel_rfl) ⟨cell_at HKd.out 0, cell_at HKd.out 1, cell_at HKd.out 2, cell_at HKd.out 3, cell_at HKd.out 4, HKd.out.lt⟩ (fun hHeld => ?_)
    ((refine wpAnyH_take (i := 0) (v := ?_) (by (simp only [List.getElem?_toArray, List.getElem?_cons_succ, List.getElem?_cons_zero]); rfl) (by kernel_rfl) (by kernel_rfl) (by kernel_rfl) (by exact fun _ _ _ h => h) (Or.inl ⟨by rfl, ?_⟩) (by assumption) ?_); rotate_left; focus (intro wS hSw; (try dsimp only at hSw); go_simp; first | done | with_reducible rfl); try simp only [Act.put, List.setIfInBounds_toArray, List.set_cons_zero, List.set_cons_succ])
    ((refine wpAnyH_take (i := 1) (v := ?_) (by (simp only [List.getElem?_toArray, List.getElem?_cons_succ, List.getElem?_cons_zero]); rfl) (by kernel_rfl) (by kernel_rfl) (by kernel_rfl) (by exact fun _ _ _ h => h) (Or.inl ⟨by rfl, ?_⟩) (by assumption) ?_); rotate_left; focus (intro wS hSw; (try dsimp only at hSw); go_simp; first | done | with_reducible rfl); try simp only [Act.put, List.setIfInBounds_toArray, List.set_cons_zero, List.set_cons_succ])
    ((refine wpAnyH_take (i := 2) (v := ?_) (by (simp only [List.getElem?_toArray, List.getElem?_cons_succ, List.getElem?_cons_zero]); rfl) (by kernel_rfl) (by kernel_rfl) (by kernel_rfl) (by exact fun _ _ _ h => h) (Or.inl ⟨by rfl, ?_⟩) (by assumption) ?_); rotate_left; focus (intro wS hSw; (try dsimp only at hSw); go_simp; first | done | with_reducible rfl); try simp only [Act.put, List.setIfInBounds_toArray, List.set_cons_zero, List.set_cons_succ])
    ((refine wpAnyH_take (i := 3) (v := ?_) (by (simp only [List.getElem?_toArray, List.getElem?_cons_succ, List.getElem?_cons_zero]); rfl) (by kernel_rfl) (by kernel_rfl) (by kernel_rfl) (by exact fun _ _ _ h => h) (Or.inl ⟨by rfl, ?_⟩) (by assumption) ?_); rotate_left; focus (intro wS hSw; (try dsimp only at hSw); go_simp; first | done | with_reducible rfl); try simp only [Act.put, List.setIfInBounds_toArray, List.set_cons_zero, List.set_cons_succ])
    ((refine wpAnyH_take (i := 4) (v := ?_) (by (simp only [List.getElem?_toArray, List.getElem?_cons_succ, List.getElem?_cons_zero]); rfl) (by kernel_rfl) (by kernel_rfl) (by kernel_rfl) (by exact fun _ _ _ h => h) (Or.inl ⟨by rfl, ?_⟩) (by assumption) ?_); rotate_left; focus (intro wS hSw; (try dsimp only at hSw); go_simp; first | done | with_reducible rfl); try simp only [Act.put, List.setIfInBounds_toArray, List.set_cons_zero, List.set_cons_succ])
    ((refine wpAnyH_take (i := 7) (v := ?_) (by (simp only [List.getElem?_toArray, List.getElem?_cons_succ, List.getElem?_cons_zero]); rfl) (by kernel_rfl) (by kernel_rfl) (by kernel_rfl) (by exact fun _ _ _ h => h) (Or.inl ⟨by rfl, ?_⟩) (by assumption) ?_); rotate_left; focus (intro wS hSw; (try dsimp only at hSw); go_simp; first | done | with_reducible rfl); try simp only [Act.put, List.setIfInBounds_toArray, List.set_cons_zero, List.set_cons_succ])
    refine wpAnyH_ready (rs := [5]) (by kernel_rfl) (by simp) ?_
    refine AllReadyH.cons (by (simp only [List.getElem?_toArray, List.getElem?_cons_succ, List.getElem?_cons_zero]); rfl) (fun K hK => ?_) AllReadyH.nil
    go_simp
    obtain ⟨M, hM⟩ : ∃ M, M = W2.heap.size := ⟨_, rfl⟩
    obtain ⟨W4, hW4⟩ : ∃ W4, W4 = (W2.alloc (.cells #[.int .i64 x.id, .int .i64 x.rate, .int .i64 x.burst, .int .i64 x.bkt, .bool x.gone] 72)).drew := ⟨_, rfl⟩
    have hB4 : Below W2.heap.size W2 W4 := by rw [hW4]; exact ((Below.refl _ _).alloc (Nat.le_refl _) _).drew
    have hnew : ∀ j u, x.cells[j]? = some u → W4.cell? ((⟨M, 0, none⟩ : Addr).add j) = some u := fun j u h => by
      have hb : Blk W4 M #[.int .i64 x.id, .int .i64 x.rate, .int .i64 x.burst, .int .i64 x.bkt, .bool x.gone] 72 := by rw [hW4, hM]; exact (blk_new W2 _ _).step ((Below.refl _ _).drew)
      rw [addr_add, Nat.zero_add, cell_at hb j]
      simpa [TnE.cells] using h
    have HNEW := Lib.hid hnew
    have HK4 := Lib.hid (HK2.out.step hB4)
    have HT4 := Lib.hid (HT2.out.below hB4)
    have HB24 := Lib.hid hB4
    have HB4 := Lib.hid (HB2.out.trans (hB4.mono HB2.out.size))
    rw [← hM, ← hW4]
    clear hM hW4 hnew hB4
    refine hK.out _ _ ⟨cell_at HK4.out 0, cell_at HK4.out 1, cell_at HK4.out 2, cell_at HK4.out 3, cell_at HK4.out 4, HK4.out.lt⟩ (fun hHeld => ?_)
    clear hK K
    try simp only [Act.put, List.setIfInBounds_toArray, List.set_cons_zero, List.set_cons_succ]
    refine wpAnyH_ready (rs := [6]) (by kernel_rfl) (by simp) ?_
    refine AllReadyH.cons (by (simp only [List.getElem?_toArray, List.getElem?_cons_succ, List.getElem?_cons_zero]); rfl) (fun K hK => ?_) AllReadyH.nil
    rw [if_pos (by rfl)]
    obtain ⟨v5, ob5, W5, hrun5, hrow5, hg5, hob5⟩ := app_full (W := W4) (ty := 60) (ao := (some ⟨b, o, none⟩)) (k := p) (L1 := (L.take p)) (M := M) (x := x) (by have := HN.out; simp; omega) (by have := HN.out; omega) (fun e => by cases e) (full_take HT4.out HN.out p hpn) HNEW.out
    refine op_append_run (.tmp 24) (.tmp 26) 60 rfl rfl rfl hrun5 ?_
    have hB5 : Below w.heap.size w W5 := HB4.out.grown hg5 HB4.out.size (by simp)
    have HB5 := Lib.hid hB5
    have HB25 : Hid (Below W2.heap.size W2 W5) := Lib.hid (HB24.out.grown hg5 HB24.out.size (by simp))
    have HK5 := Lib.hid (show Blk W5 N #[.int .i64 x.id, .int .i64 x.rate, .int .i64 x.burst, .int .i64 x.bkt, .bool x.gone] 72 from (hg5.block N HK4.out.lt (by simp)).trans HK4.out)
    have HT5 : Hid (TnIn W5 (some ⟨b, o, none⟩) n cap b o (gt L)) := Lib.hid (HT4.out.below ((Below.refl W4.heap.size W4).grown hg5 (Nat.le_refl _) (by simp)))
    have HR5 := Lib.hid hrow5
    have HO5b : Hid (N < ob5) := Lib.hid (by have := HK4.out.lt; omega)
    have HO5 : Hid (w.heap.size ≤ ob5) := Lib.hid (by have := HB4.out.size; omega)
    clear hrun5 hrow5 hg5 hob5 hB5
    refine hK.out _ _ ⟨cell_at HK5.out 0, cell_at HK5.out 1, cell_at HK5.out 2, cell_at HK5.out 3, cell_at HK5.out 4, HK5.out.lt⟩ (fun hHeld => ?_)
    clear hK K
    try simp only [Act.put, List.setIfInBounds_toArray, List.set_cons_zero, List.set_cons_succ]
    refine wpAnyH_ready (rs := [8]) (by kernel_rfl) (by simp) ?_
    refine AllReadyH.cons (by (simp only [List.getElem?_toArray, List.getElem?_cons_succ, List.getElem?_cons_zero]); rfl) (fun K hK => ?_) AllReadyH.nil
    rw [if_pos (by rfl)]
    obtain ⟨v6, ob6, W6, hrun6, hrow6, hg6, hob6⟩ := app_row (W := W5) (ty := 60) (L2 := (L.drop (p + 1))) (a2 := ad) (m := (n - p - 1)) (c := (cap - p - 1)) HR5.out rfl ((HPCT.out.below ((Below.refl W2.heap.size W2).trans (HB25.out)))) (by have := HN.out; first | (simp; done) | (simp; omega))
    refine op_append_run (.tmp 27) (.tmp 28) 60 rfl rfl rfl hrun6 ?_
    have hB6 : Below w.heap.size w W6 := HB5.out.grown hg6 HB5.out.size (fun g e => by obtain rfl := Option.some.inj e; exact HO5.out)
    have HB6 := Lib.hid hB6
    have hK6 : Blk W6 N #[.int .i64 x.id, .int .i64 x.rate, .int .i64 x.burst, .int .i64 x.bkt, .bool x.gone] 72 := (hg6.block N HK5.out.lt (fun e => by have := Option.some.inj e; exact absurd this (by have := HO5b.out; omega))).trans HK5.out
    have HK6 := Lib.hid hK6
    have HO6 : Hid (w.heap.size ≤ ob6) := Lib.hid (by
      rcases hob6 with h | h
      · rw [h]; exact HO5.out
      · have := HB5.out.size; omega)
    have HR6 := Lib.hid hrow6
    clear hrun6 hrow6 hg6 hob6 hB6 hK6
    refine hK.out _ _ ⟨cell_at HK6.out 0, cell_at HK6.out 1, cell_at HK6.out 2, cell_at HK6.out 3, cell_at HK6.out 4, HK6.out.lt⟩ (fun hHeld => ?_)
    clear hK K
    try simp only [Act.put, List.setIfInBounds_toArray, List.set_cons_zero, List.set_cons_succ]
    ((refine wpAnyH_take (i := 9) (v := ?_) (by (simp only [List.getElem?_toArray, List.getElem?_cons_succ, List.getElem?_cons_zero]); rfl) (by kernel_rfl) (by kernel_rfl) (by kernel_rfl) (by exact fun _ _ _ h => h) (Or.inl ⟨by rfl, ?_⟩) (by assumption) ?_); rotate_left; focus (intro wS hSw; (try dsimp only at hSw); go_simp; first | done | with_reducible rfl); try simp only [Act.put, List.setIfInBounds_toArray, List.set_cons_zero, List.set_cons_succ])
    refine wpAnyH_done (by kernel_rfl) ?_ _
    go_wp2_with fail
    go_ret
    refine ⟨v6, rfl, tvo_row (by rw [HLY.out]; simpa using HR6.out) ?_ (fun g e => by obtain rfl := Option.some.inj e; exact HO6.out), HB6.out⟩
    rw [HLY.out]
    exact okL_lay HOK.out HXO.out _ _
end Go.Proofs.Ytpgpcgpecpimlaa
