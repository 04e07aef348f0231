/-
  The document's Push, where there is room.
-/
import Derived.Test.YtninhjeiialbjaaPl4
namespace Go.Proofs.Ytninhjeiialbjaa
open Go.RowKit
set_option linter.unusedSimpArgs false
set_option linter.unusedVariables false

theorem RowO.shape {W : World} {v : Value} {ob : Option Nat} {t : TypeId} {size n : Nat} {xs : List Value} (h : RowO W v ob t size n xs) : ∃ a cap, v = .slice a n cap ∧ n ≤ cap ∧ cap ≤ maxLen := by
  rcases h.2 with ⟨h1, h2, h3⟩ | ⟨g, off, cap, cur, h1, h2, h3, h4, h5, h6⟩
  · exact ⟨none, 0, by rw [h1, h3], by omega, Nat.zero_le _⟩
  · exact ⟨_, _, h1, h4, h5⟩

set_option maxRecDepth 100000 in
set_option maxHeartbeats 8000000 in
theorem rpush_any (D : Nat) (room : Int) (n : Nat) (lost : Int) (ob : Option Nat) (v : Value) (E : Nat → PkE) (num t c : Int) (a : Option Addr) (ln ca b o : Nat) (X : Nat → Nat) (w : World) (hq : RQ w D room n lost ob v E) (hl : ByIn w a ln ca b o X) (h14 : ln ≤ 1492) (hn : (n : Int) < room) (hr : room ≤ 64) :
    Calls Try.prog 73 #[.pointer (some ⟨D, 0, none⟩), .agg #[.int .i64 num, .int .i64 t, .int .i64 c, .slice a ln ca]] w fun e w' => e = .returned (.int .i64 0) ∧ ∃ a' c' b' ob' v', RQ w' D room (n + 1) lost (some ob') v' (putE E n ⟨num, t, c, a', ln, c', b', 0, X⟩) ∧ (ob = some ob' ∨ w.heap.size ≤ ob') ∧ (0 < ln → w.heap.size ≤ b') ∧ Fr (D :: ob.toList) w w' := by
  obtain ⟨va, vc, rfl, hnc, hcm⟩ := hq.shape
  obtain ⟨i0, hi, hz0, hz1, hz2⟩ := info_parts infoPkt4
  have HI := Lib.hid hi
  have HZ0 := Lib.hid hz0
  have HZ1 := Lib.hid hz1
  have HZ2 := Lib.hid hz2
  have s1 : IntKind.i64.wrap (8 + (ln : Int)) = 8 + ln := IntWalk.i64_in _ (by omega)
  have d1 : decide ((1500 : Int) < 8 + ln) = false := by simp; omega
  have d2 : decide (room ≤ (n : Int)) = false := by simpa using hn
  obtain ⟨W1, hW1⟩ : ∃ W1, W1 = w.alloc (.cells #[.int .i64 num, .int .i64 t, .int .i64 c, .slice a ln ca] 57) := ⟨_, rfl⟩
  have hB1 : Below w.heap.size w W1 := by rw [hW1]; exact (Below.refl _ _).alloc (Nat.le_refl _) _
  obtain ⟨N, hN⟩ : ∃ N, N = w.heap.size := ⟨_, rfl⟩
  have hp : Blk W1 N #[.int .i64 num, .int .i64 t, .int .i64 c, .slice a ln ca] 57 := by rw [hW1, hN]; exact blk_new _ _ _
  have p3 : W1.cell? ⟨N, 3, none⟩ = some (.slice a ln ca) := cell_at hp 3
  have HQ1 := Lib.hid (hq.below hB1)
  have HP1 := Lib.hid hp
  have HB1 := Lib.hid hB1
  have HL1 := Lib.hid (hl.below hB1)
  have HN := Lib.hid hN
  have HX : Hid (n ≤ 64) := Lib.hid (by omega)
  have HDw : Hid (D < w.heap.size ∧ ∀ g, ob = some g → g < w.heap.size) := Lib.hid ⟨hq.own.lt, fun g hg => by have hr := hq.row; subst hg; exact hr.lt⟩
  have q0 : W1.cell? ⟨D, 0, none⟩ = some (.int .i64 room) := cell_at HQ1.out.own 0
  have q1 : W1.cell? ⟨D, 1, none⟩ = some (.slice va n vc) := cell_at HQ1.out.own 1
  have hD : D < W1.heap.size := HQ1.out.own.lt
  clear hq hB1 hp hi hz0 hz1 hz2 hl hr hn
  go_enter Try.func73, Try.ntmps73
  go_upto_region 1 with fail
  rw [← hN, ← hW1]
  clear hN hW1
  go_wp2_with fail
  go_quiet (fail)
  clear q0 q1 p3
  rename_i nq
  obtain ⟨W2, hW2⟩ : ∃ W2, W2 = W1.drewN nq := ⟨_, rfl⟩
  rw [← hW2]
  have hB2 : Below W1.heap.size W1 W2 := by rw [hW2]; exact dN _ _
  have hB2d : Below W1.heap.size W1 W2.drew := hB2.drew
  have HQ2 := Lib.hid (HQ1.out.below hB2d)
  have HP2 := Lib.hid (HP1.out.step hB2d)
  have HL2 := Lib.hid (HL1.out.below hB2d)
  have HB2 := Lib.hid (HB1.out.trans (hB2d.mono HB1.out.size))
  clear hW2 hB2 hB2d
  go_upto_region 6 with fail
  refine wp_region_held_drew (S := fun X => X.cell? ⟨N, 0, none⟩ = some (.int .i64 num) ∧ X.cell? ⟨N, 1, none⟩ = some (.int .i64 t) ∧ X.cell? ⟨N, 2, none⟩ = some (.int .i64 c) ∧ X.cell? ⟨N, 3, none⟩ = some (.slice a ln ca) ∧ N < X.heap.size) (by kernel_rfl) ⟨cell_at HP2.out 0, cell_at HP2.out 1, cell_at HP2.out 2, cell_at HP2.out 3, HP2.out.lt⟩ (fun hHeld => ?_)
  ((refine wpAnyH_take (i := 0) (v := ?_) (by (simp only [List.getElem?_toArray, List.getElem?_cons_succ, List.getElem?_cons_zero]); rfl) (by kernel_rfl) (by kernel_rfl) (by kernel_rfl) (by exact fun _ _ _ h => h) (Or.inl ⟨by rfl, ?_⟩) (by assumption) ?_); rotate_left; focus (intro wS hSw; (try dsimp only at hSw); go_simp; first | done | with_reducible rfl); try simp only [Act.put, List.setIfInBounds_toArray, List.set_cons_zero, List.set_cons_succ])
  ((refine wpAnyH_take (i := 1) (v := ?_) (by (simp only [List.getElem?_toArray, List.getElem?_cons_succ, List.getElem?_cons_zero]); rfl) (by kernel_rfl) (by kernel_rfl) (by kernel_rfl) (by exact fun _ _ _ h => h) (Or.inl ⟨by rfl, ?_⟩) (by assumption) ?_); rotate_left; focus (intro wS hSw; (try dsimp only at hSw); go_simp; first | done | with_reducible rfl); try simp only [Act.put, List.setIfInBounds_toArray, List.set_cons_zero, List.set_cons_succ])
  ((refine wpAnyH_take (i := 2) (v := ?_) (by (simp only [List.getElem?_toArray, List.getElem?_cons_succ, List.getElem?_cons_zero]); rfl) (by kernel_rfl) (by kernel_rfl) (by kernel_rfl) (by exact fun _ _ _ h => h) (Or.inl ⟨by rfl, ?_⟩) (by assumption) ?_); rotate_left; focus (intro wS hSw; (try dsimp only at hSw); go_simp; first | done | with_reducible rfl); try simp only [Act.put, List.setIfInBounds_toArray, List.set_cons_zero, List.set_cons_succ])
  ((refine wpAnyH_take (i := 3) (v := ?_) (by (simp only [List.getElem?_toArray, List.getElem?_cons_succ, List.getElem?_cons_zero]); rfl) (by kernel_rfl) (by kernel_rfl) (by kernel_rfl) (by exact fun _ _ _ h => h) (Or.inl ⟨by rfl, ?_⟩) (by assumption) ?_); rotate_left; focus (intro wS hSw; (try dsimp only at hSw); go_simp; first | done | with_reducible rfl); try simp only [Act.put, List.setIfInBounds_toArray, List.set_cons_zero, List.set_cons_succ])
  ((refine wpAnyH_take (i := 5) (v := ?_) (by (simp only [List.getElem?_toArray, List.getElem?_cons_succ, List.getElem?_cons_zero]); rfl) (by kernel_rfl) (by kernel_rfl) (by kernel_rfl) (by exact fun _ _ _ h => h) (Or.inl ⟨by rfl, ?_⟩) (by assumption) ?_); rotate_left; focus (intro wS hSw; (try dsimp only at hSw); go_simp; first | done | with_reducible rfl); try simp only [Act.put, List.setIfInBounds_toArray, List.set_cons_zero, List.set_cons_succ])
  refine wpAnyH_ready (rs := [4, 6]) (by kernel_rfl) (by simp) ?_
  have l2 : W2.drew.cell? ⟨D, 1, none⟩ = some (.slice va n vc) := cell_at HQ2.out.own 1
  have lD2 := HQ2.out.own.lt
  refine AllReadyH.cons (by (simp only [List.getElem?_toArray, List.getElem?_cons_succ, List.getElem?_cons_zero]); rfl) (fun K hK => ?_) (AllReadyH.cons (by (simp only [List.getElem?_toArray, List.getElem?_cons_succ, List.getElem?_cons_zero]); rfl) (fun K hK => ?_) AllReadyH.nil)
  · go_simp
    clear l2 lD2
    refine hK.out _ _ ⟨cell_at HP2.out 0, cell_at HP2.out 1, cell_at HP2.out 2, cell_at HP2.out 3, HP2.out.lt⟩ (fun hHeld => ?_)
    clear hK K
    try simp only [Act.put, List.setIfInBounds_toArray, List.set_cons_zero, List.set_cons_succ]
    refine wpAnyH_ready (rs := [6]) (by kernel_rfl) (by simp) ?_
    refine AllReadyH.cons (by (simp only [List.getElem?_toArray, List.getElem?_cons_succ, List.getElem?_cons_zero]); rfl) (fun K hK => ?_) AllReadyH.nil
    go_simp
    refine Calls.mono (rcopy_any num t c a ln ca b o X _ HL2.out (by omega)) ?_
    rintro e W3 ⟨a', c', b', rfl, hby, hfr, hB3⟩
    have HQ3 := Lib.hid (HQ2.out.below hB3)
    have HP3 := Lib.hid (HP2.out.step hB3)
    have HL3 := Lib.hid hby
    have HF3 := Lib.hid hfr
    have HB3 := Lib.hid (HB2.out.trans (hB3.mono HB2.out.size))
    clear hby hfr hB3
    go_wp2_with fail
    refine hK.out _ _ ⟨cell_at HP3.out 0, cell_at HP3.out 1, cell_at HP3.out 2, cell_at HP3.out 3, HP3.out.lt⟩ (fun hHeld => ?_)
    clear hK K
    try simp only [Act.put, List.setIfInBounds_toArray, List.set_cons_zero, List.set_cons_succ]
    refine wpAnyH_ready (rs := [7]) (by kernel_rfl) (by simp) ?_
    refine AllReadyH.cons (by (simp only [List.getElem?_toArray, List.getElem?_cons_succ, List.getElem?_cons_zero]); rfl) (fun K hK => ?_) AllReadyH.nil
    go_simp
    obtain ⟨W4, hW4⟩ : ∃ W4, W4 = W3.alloc (.cells #[.int .i64 num, .int .i64 t, .int .i64 c, .slice a' ln c'] 57) := ⟨_, rfl⟩
    have hB4 : Below W3.heap.size W3 W4 := by rw [hW4]; exact (Below.refl _ _).alloc (Nat.le_refl _) _
    have hnew : ∀ j u, [Value.int .i64 num, .int .i64 t, .int .i64 c, .slice a' ln c'][j]? = some u → W4.cell? ((⟨W3.heap.size, 0, none⟩ : Addr).add j) = some u := fun j u h => by
      rw [hW4, addr_add, Nat.zero_add, cell_at (blk_new W3 _ _) j]
      simpa using h
    have HNEW := Lib.hid hnew
    have HQ4 := Lib.hid (HQ3.out.below hB4)
    have HP4 := Lib.hid (HP3.out.step hB4)
    have HL4 := Lib.hid (HL3.out.below hB4)
    have HB4 := Lib.hid (HB3.out.trans (hB4.mono HB3.out.size))
    have HZ4 : Hid (W3.heap.size ≤ W4.heap.size) := Lib.hid hB4.size
    rw [← hW4]
    clear hW4 hnew hB4
    refine hK.out _ _ ⟨cell_at HP4.out 0, cell_at HP4.out 1, cell_at HP4.out 2, cell_at HP4.out 3, HP4.out.lt⟩ (fun hHeld => ?_)
    clear hK K
    try simp only [Act.put, List.setIfInBounds_toArray, List.set_cons_zero, List.set_cons_succ]
    refine wpAnyH_ready (rs := [8]) (by kernel_rfl) (by simp) ?_
    refine AllReadyH.cons (by (simp only [List.getElem?_toArray, List.getElem?_cons_succ, List.getElem?_cons_zero]); rfl) (fun K hK => ?_) AllReadyH.nil
    rw [if_pos (by rfl)]
    refine op_append_rowO _ (.tmp 31) (.tmp 34) 68 rfl 57 i0 _ 4 48 Try.underlying68 HI.out HZ0.out HZ1.out HZ2.out rfl (by decide) _ ob n (pL E n) rfl HQ4.out.row ⟨W3.heap.size, 0, none⟩ 1 1 [.int .i64 num, .int .i64 t, .int .i64 c, .slice a' ln c'] rfl (by decide) rfl HNEW.out ?c2 ?c3 ?c4 ?_
    case c2 => intro u hu; exact (List.all_eq_true (p := fun u : Value => u.oneCell')).1 rfl u hu
    case c3 => have := HX.out; unfold maxLen; omega
    case c4 => have := HX.out; omega
    intro v5 ob5 W5 hrow5 hg5 hob5
    obtain ⟨a5, c5, rfl, _, _⟩ := hrow5.shape
    have hF5 : Fr (D :: ob.toList) w W5 := (Fr.mono (l' := D :: ob.toList) (Fr.of_below HB4.out) (by intro x hx; cases hx)).grown hg5 (fun k hk => .inl (by rw [hk]; simp))
    have HP5 : Hid (Blk W5 N #[.int .i64 num, .int .i64 t, .int .i64 c, .slice a ln ca] 57) := Lib.hid ((hg5.block N HP4.out.lt (fun e => by have := HDw.out.2 N e.symm; have := HN.out; omega)).trans HP4.out)
    have HD5 : Hid (Blk W5 D #[.int .i64 room, .slice va n vc, .int .i64 lost] 70) := Lib.hid ((hg5.block D HQ4.out.own.lt (fun e => HQ4.out.ne e.symm)).trans HQ4.out.own)
    have HROW := Lib.hid hrow5
    have HG5 := Lib.hid hg5
    have HOB := Lib.hid hob5
    have HF5 := Lib.hid hF5
    clear hrow5 hg5 hob5 hF5
    refine hK.out _ _ ⟨cell_at HP5.out 0, cell_at HP5.out 1, cell_at HP5.out 2, cell_at HP5.out 3, HP5.out.lt⟩ (fun hHeld => ?_)
    clear hK K
    try simp only [Act.put, List.setIfInBounds_toArray, List.set_cons_zero, List.set_cons_succ]
    ((refine wpAnyH_take (i := 9) (v := ?_) (by (simp only [List.getElem?_toArray, List.getElem?_cons_succ, List.getElem?_cons_zero]); rfl) (by kernel_rfl) (by kernel_rfl) (by kernel_rfl) (by exact fun _ _ _ h => h) (Or.inl ⟨by rfl, ?_⟩) (by assumption) ?_); rotate_left; focus (intro wS hSw; (try dsimp only at hSw); go_simp; first | done | with_reducible rfl); try simp only [Act.put, List.setIfInBounds_toArray, List.set_cons_zero, List.set_cons_succ])
    ((refine wpAnyH_take (i := 10) (v := ?_) (by (simp only [List.getElem?_toArray, List.getElem?_cons_succ, List.getElem?_cons_zero]); rfl) (by kernel_rfl) (by kernel_rfl) (by kernel_rfl) (by exact fun _ _ _ h => h) (Or.inl ⟨by rfl, ?_⟩) (by assumption) ?_); rotate_left; focus (intro wS hSw; (try dsimp only at hSw); go_simp; first | done | with_reducible rfl); try simp only [Act.put, List.setIfInBounds_toArray, List.set_cons_zero, List.set_cons_succ])
    have k1 : W5.cell? ⟨D, 1, none⟩ = some (.slice va n vc) := cell_at HD5.out 1
    have z1 := free_at HD5.out 1
    have hD5 := HD5.out.lt
    refine wpAnyH_ready (rs := [11]) (by kernel_rfl) (by simp) ?_
    refine AllReadyH.cons (by (simp only [List.getElem?_toArray, List.getElem?_cons_succ, List.getElem?_cons_zero]); rfl) (fun K hK => ?_) AllReadyH.nil
    go_simp
    have hnD : N ≠ D := fun e => by have := HDw.out.1; have := HN.out; omega
    have HP6 : Hid (Blk (W5.setCell ⟨D, 1, none⟩ (.slice a5 (n + 1) c5)) N #[.int .i64 num, .int .i64 t, .int .i64 c, .slice a ln ca] 57) := Lib.hid (HP5.out.ne ⟨D, 1, none⟩ hnD _)
    obtain ⟨W6, hW6⟩ : ∃ W6, W6 = W5.setCell ⟨D, 1, none⟩ (.slice a5 (n + 1) c5) := ⟨_, rfl⟩
    rw [← hW6] at HP6 ⊢
    have HQ6 : Hid (RQ W6 D room (n + 1) lost (some ob5) (.slice a5 (n + 1) c5) (putE E n ⟨num, t, c, a', ln, c', b', 0, X⟩)) := Lib.hid (HQ4.out.push (y := ⟨num, t, c, a', ln, c', b', 0, X⟩) HL4.out h14 (fun hp => by have := HF3.out hp; have := HB2.out.size; have := HDw.out.1; simp only; omega) (fun hp e => by have := HF3.out hp; have := HB2.out.size; have := HDw.out.2 _ e; simp only at this; omega) HROW.out HG5.out HOB.out hW6)
    have HF6 : Hid (Fr (D :: ob.toList) w W6) := Lib.hid (by rw [hW6]; exact HF5.out.setCell ⟨D, 1, none⟩ (.inl (by simp)) _)
    have HO6 : Hid (ob = some ob5 ∨ w.heap.size ≤ ob5) := Lib.hid (by
      rcases HOB.out with h | h
      · exact .inl h
      · exact .inr (by have := HB4.out.size; omega))
    clear hW6 k1 z1 hD5
    refine hK.out _ _ ⟨cell_at HP6.out 0, cell_at HP6.out 1, cell_at HP6.out 2, cell_at HP6.out 3, HP6.out.lt⟩ (fun hHeld => ?_)
    clear hK K
    try simp only [Act.put, List.setIfInBounds_toArray, List.set_cons_zero, List.set_cons_succ]
    refine wpAnyH_done (by kernel_rfl) ?_ _
    go_wp2_with fail
    go_ret
    exact ⟨rfl, a', c', b', ob5, _, HQ6.out, HO6.out, (fun hp => by have := HF3.out hp; have := HB2.out.size; omega), HF6.out⟩
  · clear l2 lD2
    go_simp
    refine Calls.mono (rcopy_any num t c a ln ca b o X _ HL2.out (by omega)) ?_
    rintro e W3 ⟨a', c', b', rfl, hby, hfr, hB3⟩
    have HQ3 := Lib.hid (HQ2.out.below hB3)
    have HP3 := Lib.hid (HP2.out.step hB3)
    have HL3 := Lib.hid hby
    have HF3 := Lib.hid hfr
    have HB3 := Lib.hid (HB2.out.trans (hB3.mono HB2.out.size))
    clear hby hfr hB3
    go_wp2_with fail
    refine hK.out _ _ ⟨cell_at HP3.out 0, cell_at HP3.out 1, cell_at HP3.out 2, cell_at HP3.out 3, HP3.out.lt⟩ (fun hHeld => ?_)
    clear hK K
    try simp only [Act.put, List.setIfInBounds_toArray, List.set_cons_zero, List.set_cons_succ]
    refine wpAnyH_ready (rs := [4, 7]) (by kernel_rfl) (by simp) ?_
    refine AllReadyH.cons (by (simp only [List.getElem?_toArray, List.getElem?_cons_succ, List.getElem?_cons_zero]); rfl) (fun K hK => ?_) (AllReadyH.cons (by (simp only [List.getElem?_toArray, List.getElem?_cons_succ, List.getElem?_cons_zero]); rfl) (fun K hK => ?_) AllReadyH.nil)
    · have l2 : W3.cell? ⟨D, 1, none⟩ = some (.slice va n vc) := cell_at HQ3.out.own 1
      have lD2 := HQ3.out.own.lt
      go_simp
      clear l2 lD2
      refine hK.out _ _ ⟨cell_at HP3.out 0, cell_at HP3.out 1, cell_at HP3.out 2, cell_at HP3.out 3, HP3.out.lt⟩ (fun hHeld => ?_)
      clear hK K
      try simp only [Act.put, List.setIfInBounds_toArray, List.set_cons_zero, List.set_cons_succ]
      refine wpAnyH_ready (rs := [7]) (by kernel_rfl) (by simp) ?_
      refine AllReadyH.cons (by (simp only [List.getElem?_toArray, List.getElem?_cons_succ, List.getElem?_cons_zero]); rfl) (fun K hK => ?_) AllReadyH.nil
      go_simp
      obtain ⟨W4, hW4⟩ : ∃ W4, W4 = W3.alloc (.cells #[.int .i64 num, .int .i64 t, .int .i64 c, .slice a' ln c'] 57) := ⟨_, rfl⟩
      have hB4 : Below W3.heap.size W3 W4 := by rw [hW4]; exact (Below.refl _ _).alloc (Nat.le_refl _) _
      have hnew : ∀ j u, [Value.int .i64 num, .int .i64 t, .int .i64 c, .slice a' ln c'][j]? = some u → W4.cell? ((⟨W3.heap.size, 0, none⟩ : Addr).add j) = some u := fun j u h => by
        rw [hW4, addr_add, Nat.zero_add, cell_at (blk_new W3 _ _) j]
        simpa using h
      have HNEW := Lib.hid hnew
      have HQ4 := Lib.hid (HQ3.out.below hB4)
      have HP4 := Lib.hid (HP3.out.step hB4)
      have HL4 := Lib.hid (HL3.out.below hB4)
      have HB4 := Lib.hid (HB3.out.trans (hB4.mono HB3.out.size))
      have HZ4 : Hid (W3.heap.size ≤ W4.heap.size) := Lib.hid hB4.size
      rw [← hW4]
      clear hW4 hnew hB4
      refine hK.out _ _ ⟨cell_at HP4.out 0, cell_at HP4.out 1, cell_at HP4.out 2, cell_at HP4.out 3, HP4.out.lt⟩ (fun hHeld => ?_)
      clear hK K
      try simp only [Act.put, List.setIfInBounds_toArray, List.set_cons_zero, List.set_cons_succ]
      refine wpAnyH_ready (rs := [8]) (by kernel_rfl) (by simp) ?_
      refine AllReadyH.cons (by (simp only [List.getElem?_toArray, List.getElem?_cons_succ, List.getElem?_cons_zero]); rfl) (fun K hK => ?_) AllReadyH.nil
      rw [if_pos (by rfl)]
      refine op_append_rowO _ (.tmp 31) (.tmp 34) 68 rfl 57 i0 _ 4 48 Try.underlying68 HI.out HZ0.out HZ1.out HZ2.out rfl (by decide) _ ob n (pL E n) rfl HQ4.out.row ⟨W3.heap.size, 0, none⟩ 1 1 [.int .i64 num, .int .i64 t, .int .i64 c, .slice a' ln c'] rfl (by decide) rfl HNEW.out ?c2 ?c3 ?c4 ?_
      case c2 => intro u hu; exact (List.all_eq_true (p := fun u : Value => u.oneCell')).1 rfl u hu
      case c3 => have := HX.out; unfold maxLen; omega
      case c4 => have := HX.out; omega
      intro v5 ob5 W5 hrow5 hg5 hob5
      obtain ⟨a5, c5, rfl, _, _⟩ := hrow5.shape
      have hF5 : Fr (D :: ob.toList) w W5 := (Fr.mono (l' := D :: ob.toList) (Fr.of_below HB4.out) (by intro x hx; cases hx)).grown hg5 (fun k hk => .inl (by rw [hk]; simp))
      have HP5 : Hid (Blk W5 N #[.int .i64 num, .int .i64 t, .int .i64 c, .slice a ln ca] 57) := Lib.hid ((hg5.block N HP4.out.lt (fun e => by have := HDw.out.2 N e.symm; have := HN.out; omega)).trans HP4.out)
      have HD5 : Hid (Blk W5 D #[.int .i64 room, .slice va n vc, .int .i64 lost] 70) := Lib.hid ((hg5.block D HQ4.out.own.lt (fun e => HQ4.out.ne e.symm)).trans HQ4.out.own)
      have HROW := Lib.hid hrow5
      have HG5 := Lib.hid hg5
      have HOB := Lib.hid hob5
      have HF5 := Lib.hid hF5
      clear hrow5 hg5 hob5 hF5
      refine hK.out _ _ ⟨cell_at HP5.out 0, cell_at HP5.out 1, cell_at HP5.out 2, cell_at HP5.out 3, HP5.out.lt⟩ (fun hHeld => ?_)
      clear hK K
      try simp only [Act.put, List.setIfInBounds_toArray, List.set_cons_zero, List.set_cons_succ]
      ((refine wpAnyH_take (i := 9) (v := ?_) (by (simp only [List.getElem?_toArray, List.getElem?_cons_succ, List.getElem?_cons_zero]); rfl) (by kernel_rfl) (by kernel_rfl) (by kernel_rfl) (by exact fun _ _ _ h => h) (Or.inl ⟨by rfl, ?_⟩) (by assumption) ?_); rotate_left; focus (intro wS hSw; (try dsimp only at hSw); go_simp; first | done | with_reducible rfl); try simp only [Act.put, List.setIfInBounds_toArray, List.set_cons_zero, List.set_cons_succ])
      ((refine wpAnyH_take (i := 10) (v := ?_) (by (simp only [List.getElem?_toArray, List.getElem?_cons_succ, List.getElem?_cons_zero]); rfl) (by kernel_rfl) (by kernel_rfl) (by kernel_rfl) (by exact fun _ _ _ h => h) (Or.inl ⟨by rfl, ?_⟩) (by assumption) ?_); rotate_left; focus (intro wS hSw; (try dsimp only at hSw); go_simp; first | done | with_reducible rfl); try simp only [Act.put, List.setIfInBounds_toArray, List.set_cons_zero, List.set_cons_succ])
      have k1 : W5.cell? ⟨D, 1, none⟩ = some (.slice va n vc) := cell_at HD5.out 1
      have z1 := free_at HD5.out 1
      have hD5 := HD5.out.lt
      refine wpAnyH_ready (rs := [11]) (by kernel_rfl) (by simp) ?_
      refine AllReadyH.cons (by (simp only [List.getElem?_toArray, List.getElem?_cons_succ, List.getElem?_cons_zero]); rfl) (fun K hK => ?_) AllReadyH.nil
      go_simp
      have hnD : N ≠ D := fun e => by have := HDw.out.1; have := HN.out; omega
      have HP6 : Hid (Blk (W5.setCell ⟨D, 1, none⟩ (.slice a5 (n + 1) c5)) N #[.int .i64 num, .int .i64 t, .int .i64 c, .slice a ln ca] 57) := Lib.hid (HP5.out.ne ⟨D, 1, none⟩ hnD _)
      obtain ⟨W6, hW6⟩ : ∃ W6, W6 = W5.setCell ⟨D, 1, none⟩ (.slice a5 (n + 1) c5) := ⟨_, rfl⟩
      rw [← hW6] at HP6 ⊢
      have HQ6 : Hid (RQ W6 D room (n + 1) lost (some ob5) (.slice a5 (n + 1) c5) (putE E n ⟨num, t, c, a', ln, c', b', 0, X⟩)) := Lib.hid (HQ4.out.push (y := ⟨num, t, c, a', ln, c', b', 0, X⟩) HL4.out h14 (fun hp => by have := HF3.out hp; have := HB2.out.size; have := HDw.out.1; simp only; omega) (fun hp e => by have := HF3.out hp; have := HB2.out.size; have := HDw.out.2 _ e; simp only at this; omega) HROW.out HG5.out HOB.out hW6)
      have HF6 : Hid (Fr (D :: ob.toList) w W6) := Lib.hid (by rw [hW6]; exact HF5.out.setCell ⟨D, 1, none⟩ (.inl (by simp)) _)
      have HO6 : Hid (ob = some ob5 ∨ w.heap.size ≤ ob5) := Lib.hid (by
        rcases HOB.out with h | h
        · exact .inl h
        · exact .inr (by have := HB4.out.size; omega))
      clear hW6 k1 z1 hD5
      refine hK.out _ _ ⟨cell_at HP6.out 0, cell_at HP6.out 1, cell_at HP6.out 2, cell_at HP6.out 3, HP6.out.lt⟩ (fun hHeld => ?_)
      clear hK K
      try simp only [Act.put, List.setIfInBounds_toArray, List.set_cons_zero, List.set_cons_succ]
      refine wpAnyH_done (by kernel_rfl) ?_ _
      go_wp2_with fail
      go_ret
      exact ⟨rfl, a', c', b', ob5, _, HQ6.out, HO6.out, (fun hp => by have := HF3.out hp; have := HB2.out.size; omega), HF6.out⟩
    · go_simp
      obtain ⟨W4, hW4⟩ : ∃ W4, W4 = W3.alloc (.cells #[.int .i64 num, .int .i64 t, .int .i64 c, .slice a' ln c'] 57) := ⟨_, rfl⟩
      have hB4 : Below W3.heap.size W3 W4 := by rw [hW4]; exact (Below.refl _ _).alloc (Nat.le_refl _) _
      have hnew : ∀ j u, [Value.int .i64 num, .int .i64 t, .int .i64 c, .slice a' ln c'][j]? = some u → W4.cell? ((⟨W3.heap.size, 0, none⟩ : Addr).add j) = some u := fun j u h => by
        rw [hW4, addr_add, Nat.zero_add, cell_at (blk_new W3 _ _) j]
        simpa using h
      have HNEW := Lib.hid hnew
      have HQ4 := Lib.hid (HQ3.out.below hB4)
      have HP4 := Lib.hid (HP3.out.step hB4)
      have HL4 := Lib.hid (HL3.out.below hB4)
      have HB4 := Lib.hid (HB3.out.trans (hB4.mono HB3.out.size))
      have HZ4 : Hid (W3.heap.size ≤ W4.heap.size) := Lib.hid hB4.size
      rw [← hW4]
      clear hW4 hnew hB4
      refine hK.out _ _ ⟨cell_at HP4.out 0, cell_at HP4.out 1, cell_at HP4.out 2, cell_at HP4.out 3, HP4.out.lt⟩ (fun hHeld => ?_)
      clear hK K
      try simp only [Act.put, List.setIfInBounds_toArray, List.set_cons_zero, List.set_cons_succ]
      have l2 : W4.cell? ⟨D, 1, none⟩ = some (.slice va n vc) := cell_at HQ4.out.own 1
      have lD2 := HQ4.out.own.lt
      refine wpAnyH_ready (rs := [4]) (by kernel_rfl) (by simp) ?_
      refine AllReadyH.cons (by (simp only [List.getElem?_toArray, List.getElem?_cons_succ, List.getElem?_cons_zero]); rfl) (fun K hK => ?_) AllReadyH.nil
      go_simp
      clear l2 lD2
      refine hK.out _ _ ⟨cell_at HP4.out 0, cell_at HP4.out 1, cell_at HP4.out 2, cell_at HP4.out 3, HP4.out.lt⟩ (fun hHeld => ?_)
      clear hK K
      try simp only [Act.put, List.setIfInBounds_toArray, List.set_cons_zero, List.set_cons_succ]
      refine wpAnyH_ready (rs := [8]) (by kernel_rfl) (by simp) ?_
      refine AllReadyH.cons (by (simp only [List.getElem?_toArray, List.getElem?_cons_succ, List.getElem?_cons_zero]); rfl) (fun K hK => ?_) AllReadyH.nil
      rw [if_pos (by rfl)]
      refine op_append_rowO _ (.tmp 31) (.tmp 34) 68 rfl 57 i0 _ 4 48 Try.underlying68 HI.out HZ0.out HZ1.out HZ2.out rfl (by decide) _ ob n (pL E n) rfl HQ4.out.row ⟨W3.heap.size, 0, none⟩ 1 1 [.int .i64 num, .int .i64 t, .int .i64 c, .slice a' ln c'] rfl (by decide) rfl HNEW.out ?c2 ?c3 ?c4 ?_
      case c2 => intro u hu; exact (List.all_eq_true (p := fun u : Value => u.oneCell')).1 rfl u hu
      case c3 => have := HX.out; unfold maxLen; omega
      case c4 => have := HX.out; omega
      intro v5 ob5 W5 hrow5 hg5 hob5
      obtain ⟨a5, c5, rfl, _, _⟩ := hrow5.shape
      have hF5 : Fr (D :: ob.toList) w W5 := (Fr.mono (l' := D :: ob.toList) (Fr.of_below HB4.out) (by intro x hx; cases hx)).grown hg5 (fun k hk => .inl (by rw [hk]; simp))
      have HP5 : Hid (Blk W5 N #[.int .i64 num, .int .i64 t, .int .i64 c, .slice a ln ca] 57) := Lib.hid ((hg5.block N HP4.out.lt (fun e => by have := HDw.out.2 N e.symm; have := HN.out; omega)).trans HP4.out)
      have HD5 : Hid (Blk W5 D #[.int .i64 room, .slice va n vc, .int .i64 lost] 70) := Lib.hid ((hg5.block D HQ4.out.own.lt (fun e => HQ4.out.ne e.symm)).trans HQ4.out.own)
      have HROW := Lib.hid hrow5
      have HG5 := Lib.hid hg5
      have HOB := Lib.hid hob5
      have HF5 := Lib.hid hF5
      clear hrow5 hg5 hob5 hF5
      refine hK.out _ _ ⟨cell_at HP5.out 0, cell_at HP5.out 1, cell_at HP5.out 2, cell_at HP5.out 3, HP5.out.lt⟩ (fun hHeld => ?_)
      clear hK K
      try simp only [Act.put, List.setIfInBounds_toArray, List.set_cons_zero, List.set_cons_succ]
      ((refine wpAnyH_take (i := 9) (v := ?_) (by (simp only [List.getElem?_toArray, List.getElem?_cons_succ, List.getElem?_cons_zero]); rfl) (by kernel_rfl) (by kernel_rfl) (by kernel_rfl) (by exact fun _ _ _ h => h) (Or.inl ⟨by rfl, ?_⟩) (by assumption) ?_); rotate_left; focus (intro wS hSw; (try dsimp only at hSw); go_simp; first | done | with_reducible rfl); try simp only [Act.put, List.setIfInBounds_toArray, List.set_cons_zero, List.set_cons_succ])
      ((refine wpAnyH_take (i := 10) (v := ?_) (by (simp only [List.getElem?_toArray, List.getElem?_cons_succ, List.getElem?_cons_zero]); rfl) (by kernel_rfl) (by kernel_rfl) (by kernel_rfl) (by exact fun _ _ _ h => h) (Or.inl ⟨by rfl, ?_⟩) (by assumption) ?_); rotate_left; focus (intro wS hSw; (try dsimp only at hSw); go_simp; first | done | with_reducible rfl); try simp only [Act.put, List.setIfInBounds_toArray, List.set_cons_zero, List.set_cons_succ])
      have k1 : W5.cell? ⟨D, 1, none⟩ = some (.slice va n vc) := cell_at HD5.out 1
      have z1 := free_at HD5.out 1
      have hD5 := HD5.out.lt
      refine wpAnyH_ready (rs := [11]) (by kernel_rfl) (by simp) ?_
      refine AllReadyH.cons (by (simp only [List.getElem?_toArray, List.getElem?_cons_succ, List.getElem?_cons_zero]); rfl) (fun K hK => ?_) AllReadyH.nil
      go_simp
      have hnD : N ≠ D := fun e => by have := HDw.out.1; have := HN.out; omega
      have HP6 : Hid (Blk (W5.setCell ⟨D, 1, none⟩ (.slice a5 (n + 1) c5)) N #[.int .i64 num, .int .i64 t, .int .i64 c, .slice a ln ca] 57) := Lib.hid (HP5.out.ne ⟨D, 1, none⟩ hnD _)
      obtain ⟨W6, hW6⟩ : ∃ W6, W6 = W5.setCell ⟨D, 1, none⟩ (.slice a5 (n + 1) c5) := ⟨_, rfl⟩
      rw [← hW6] at HP6 ⊢
      have HQ6 : Hid (RQ W6 D room (n + 1) lost (some ob5) (.slice a5 (n + 1) c5) (putE E n ⟨num, t, c, a', ln, c', b', 0, X⟩)) := Lib.hid (HQ4.out.push (y := ⟨num, t, c, a', ln, c', b', 0, X⟩) HL4.out h14 (fun hp => by have := HF3.out hp; have := HB2.out.size; have := HDw.out.1; simp only; omega) (fun hp e => by have := HF3.out hp; have := HB2.out.size; have := HDw.out.2 _ e; simp only at this; omega) HROW.out HG5.out HOB.out hW6)
      have HF6 : Hid (Fr (D :: ob.toList) w W6) := Lib.hid (by rw [hW6]; exact HF5.out.setCell ⟨D, 1, none⟩ (.inl (by simp)) _)
      have HO6 : Hid (ob = some ob5 ∨ w.heap.size ≤ ob5) := Lib.hid (by
        rcases HOB.out with h | h
        · exact .inl h
        · exact .inr (by have := HB4.out.size; omega))
      clear hW6 k1 z1 hD5
      refine hK.out _ _ ⟨cell_at HP6.out 0, cell_at HP6.out 1, cell_at HP6.out 2, cell_at HP6.out 3, HP6.out.lt⟩ (fun hHeld => ?_)
      clear hK K
      try simp only [Act.put, List.setIfInBounds_toArray, List.set_cons_zero, List.set_cons_succ]
      refine wpAnyH_done (by kernel_rfl) ?_ _
      go_wp2_with fail
      go_ret
      exact ⟨rfl, a', c', b', ob5, _, HQ6.out, HO6.out, (fun hp => by have := HF3.out hp; have := HB2.out.size; omega), HF6.out⟩
end Go.Proofs.Ytninhjeiialbjaa
