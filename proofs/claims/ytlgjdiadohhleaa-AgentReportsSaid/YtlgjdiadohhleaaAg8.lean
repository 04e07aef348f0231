/-
  An agent is told of a lease.
-/
import Derived.Test.YtlgjdiadohhleaaAg7
import Derived.Deep.RegionLaw
namespace Go.Proofs.Ytlgjdiadohhleaa
open Go.RowKit
set_option linter.unusedSimpArgs false
set_option linter.unusedVariables false

theorem agLz : (Try.prog.info? 111).map (fun i => (i.zero, i.size, i.bytes)) = some (some (.agg #[.int .i64 0, .int .i64 0, .int .i64 0, .int .i64 0, .int .i64 0, .int .i64 0]), 6, 48) := by kernel_rfl
theorem news_ag (W : World) (xs : Array Value) (e : TypeId) (j : Nat) (u : Value) (h : xs.toList[j]? = some u) : (W.alloc (.cells xs e)).cell? ((⟨W.heap.size, 0, none⟩ : Addr).add j) = some u := by
  have h1 : (W.alloc (.cells xs e)).heap[W.heap.size]? = some (.cells xs e (0, 0)) := heap_alloc_new W _
  have h2 := cell_at h1 (0 + j)
  rw [Nat.zero_add, ← Array.getElem?_toList, h] at h2
  have h3 : (⟨W.heap.size, 0, none⟩ : Addr).add j = ⟨W.heap.size, 0 + j, none⟩ := by unfold Addr.add; split <;> simp_all
  rw [h3, Nat.zero_add]
  exact h2
theorem row_one {w : World} {v : Value} {b : Nat} {x : Lz} (h : Row w v (some b) 111 6 1 x.cells) : ∃ c, v = .slice (some ⟨b, 0, none⟩) 1 c ∧ OneL w b c x := by
  rcases h.cases with ⟨e, _⟩ | ⟨g, cap, cur, e, rfl, h3, h4, h5, h6, h7⟩
  · cases e
  · obtain rfl := Option.some.inj e
    refine ⟨cap, rfl, ⟨cur, h3, h6, fun j hj => ?_⟩, h4, h5⟩
    rw [← h7, List.getElem?_take, if_pos (by omega), Array.getElem?_toList]

theorem index_nil (fv : Value) (w : World) :
    Calls Try.prog 89 #[.slice none 0 0, fv] w fun e w' => e = .returned (.int .i64 (-1)) ∧ w = w' := by
  go_enter Try.func89, Try.ntmps89
  go_wp2_with fail
  refine wp_loop_rounds 1 ?_
  rw [rounds_succ]
  go_wp2_with fail
  go_ret
  exact ⟨rfl, rfl⟩
theorem contains_nil (fv : Value) (w : World) :
    Calls Try.prog 52 #[.slice none 0 0, fv] w fun e w' => e = .returned (.bool false) ∧ w = w' := by
  go_enter Try.func52, Try.ntmps52
  go_wp2_with (go_at_call 89; refine (index_nil _ _).mono ?_; rintro e w' ⟨rfl, rfl⟩)
  go_ret
  exact ⟨rfl, rfl⟩

/-- what is told, taken -/
def Ag.told (s : Ag) (t : Int) : Ag := { s.tick t with un := false }

set_option maxRecDepth 100000 in
set_option maxHeartbeats 8000000 in
theorem told_ok (g : Nat) (s : Ag) (t a1 a2 le sz : Int) (w : World) (h : AgAt w g s (.gone none 0)) (hu : s.un = true) (l1 : 1 ≤ le) (z1 : 1 ≤ sz) (z2 : sz ≤ s.sz) (u0 : 0 ≤ s.st) (u1 : s.st ≤ 4611686018427387904) (u2 : 0 ≤ s.la) (u3 : s.la ≤ 4611686018427387) :
    Calls Try.prog 17 #[.pointer (some ⟨g, 0, none⟩), .int .i64 s.ae, .int .i64 s.an, .agg #[.int .i64 0, .int .i64 a1, .int .i64 a2, .int .i64 le, .int .i64 sz], .int .i64 t] w fun e w' => Fr [g] w w' ∧
      ((max s.now t < s.st + s.la ∧ ∃ b c, e = .returned (.int .i64 0) ∧ AgAt w' g (s.told t) (.one b c ⟨le, s.at_, sz, s.st + s.la, 0, 0⟩) ∧ w.heap.size ≤ b) ∨
       (s.st + s.la ≤ max s.now t ∧ e = .returned (.int .i64 4) ∧ AgAt w' g (s.told t) (.gone none 0))) := by
  obtain ⟨N, hN⟩ : ∃ N, N = w.heap.size := ⟨_, rfl⟩
  obtain ⟨W0, hW0⟩ : ∃ W0, W0 = w.alloc (.cells #[.int .i64 0, .int .i64 a1, .int .i64 a2, .int .i64 le, .int .i64 sz] 24) := ⟨_, rfl⟩
  have hB0 : Below w.heap.size w W0 := by rw [hW0]; exact (Below.refl _ _).alloc (Nat.le_refl _) _
  have b0 : Blk W0 N #[.int .i64 0, .int .i64 a1, .int .i64 a2, .int .i64 le, .int .i64 sz] 24 := by rw [hW0, hN]; exact blk_new _ _ _
  have hgN : g ≠ N := by have := h.blk.lt; omega
  have AT := Lib.hid (at_any g s (.gone none 0) t W0 (h.below hB0))
  have HF0 : Hid (Fr [g] w W0) := Lib.hid ((Fr.of_below hB0).mono (by simp))
  have HK0 := Lib.hid b0
  have NQ := fun W => name_neq s.ae s.an s.ae s.an W
  rw [show (s.ae == s.ae && s.an == s.an) = true by simp] at NQ
  have CN := Lib.hid contains_nil
  obtain ⟨M, hM⟩ : ∃ M, M = max s.now t := ⟨_, rfl⟩
  obtain ⟨U, hU⟩ : ∃ U, U = s.st + s.la := ⟨_, rfl⟩
  have e1 : IntKind.i64.wrap (s.st + s.la) = U := by rw [hU]; exact IntWalk.i64_in _ (by omega)
  have HM := Lib.hid hM
  have HU := Lib.hid hU
  have HN := Lib.hid hN
  obtain ⟨Q, hQ⟩ : ∃ Q : Ending → World → Prop, Q = fun e w' => Fr [g] w w' ∧
      ((M < U ∧ ∃ b c, e = .returned (.int .i64 0) ∧ AgAt w' g (s.told t) (.one b c ⟨le, s.at_, sz, U, 0, 0⟩) ∧ w.heap.size ≤ b) ∨
       (U ≤ M ∧ e = .returned (.int .i64 4) ∧ AgAt w' g (s.told t) (.gone none 0))) := ⟨_, rfl⟩
  rw [← hM, ← hU, ← hQ]
  have HQ := Lib.hid hQ
  clear h hB0 b0 hM hU hQ
  go_enter Try.func17, Try.ntmps17
  go_upto_region 3 with fail
  rw [← hN, ← hW0]
  clear hW0 hN
  go_wp2_with fail
  go_at_call 49
  refine Calls.mono AT.out ?_
  rintro e W1 ⟨rfl, h1, hf1⟩
  change AgAt W1 g (s.tick t) (.gone none 0) at h1
  have HA1 := Lib.hid h1
  have HF1 : Hid (Fr [g] w W1) := Lib.hid (HF0.out.trans hf1 (fun x hx => .inl hx))
  have HK1 : Hid (Blk W1 N #[.int .i64 0, .int .i64 a1, .int .i64 a2, .int .i64 le, .int .i64 sz] 24) := Lib.hid ((hf1.block N HK0.out.lt (by simp [Hd.bl]; exact fun e => hgN e.symm)).trans HK0.out)
  have c5 : W1.cell? ⟨g, 5, none⟩ = some (.bool true) := by rw [← hu]; exact cell_at h1.blk 5
  have c6 : W1.cell? ⟨g, 6, none⟩ = some (.int .i64 s.ae) := cell_at h1.blk 6
  have c7 : W1.cell? ⟨g, 7, none⟩ = some (.int .i64 s.an) := cell_at h1.blk 7
  have z5 := free_at h1.blk 5
  clear h1 hf1 AT HF0 HK0
  go_upto_region 7 with fail
  obtain ⟨W2, hW2⟩ : ∃ W2, W2 = W1.setCell ⟨g, 5, none⟩ (.bool false) := ⟨_, rfl⟩
  have hb2 : Blk W2 g ((s.told t).cells (.slice none 0 0)) 107 := by rw [hW2]; exact HA1.out.blk.set 5 (.bool false)
  have hf2 : Fr [g] w W2 := by rw [hW2]; exact HF1.out.setCell ⟨g, 5, none⟩ (.inl (by simp)) _
  have hk2 : Blk W2 N #[.int .i64 0, .int .i64 a1, .int .i64 a2, .int .i64 le, .int .i64 sz] 24 := by rw [hW2]; exact HK1.out.ne ⟨g, 5, none⟩ (fun e => hgN e.symm) _
  rw [← hW2]
  have d2 : W2.cell? ⟨g, 2, none⟩ = some (.int .i64 s.la) := cell_at hb2 2
  have d3 : W2.cell? ⟨g, 3, none⟩ = some (.int .i64 M) := by rw [HM.out]; exact cell_at hb2 3
  have d8 : W2.cell? ⟨g, 8, none⟩ = some (.int .i64 s.at_) := cell_at hb2 8
  have d9 : W2.cell? ⟨g, 9, none⟩ = some (.int .i64 s.sz) := cell_at hb2 9
  have d10 : W2.cell? ⟨g, 10, none⟩ = some (.int .i64 s.st) := cell_at hb2 10
  have d11 : W2.cell? ⟨g, 11, none⟩ = some (.slice none 0 0) := cell_at hb2 11
  have y11 := free_at hb2 11
  have a_0 : W2.cell? ⟨N, 0, none⟩ = some (.int .i64 0) := cell_at hk2 0
  have a_3 : W2.cell? ⟨N, 3, none⟩ = some (.int .i64 le) := cell_at hk2 3
  have a_4 : W2.cell? ⟨N, 4, none⟩ = some (.int .i64 sz) := cell_at hk2 4
  have HK2 := Lib.hid hb2
  have HF2 := Lib.hid hf2
  have hl2 : g < W2.heap.size := hb2.lt
  clear hW2 hb2 hf2 hk2 c5 c6 c7 z5 NQ HA1 HF1 HK1 hgN
  go_quiet (fail)
  go_wp2_with fail
  go_quiet ((go_at_call 52; exact (CN.out _ _).mono fun _ _ ⟨he, hm⟩ => ⟨he, _, hm.symm⟩))
  rcases Int.lt_or_le M U with hmu | hmu
  · have HMU := Lib.hid hmu
    go_upto_region 17 with fail
    clear hmu
    obtain ⟨i0, hi, hz0, hz1, hz2⟩ := info_parts agLz
    have HI := Lib.hid hi
    have HZ0 := Lib.hid hz0
    have HZ1 := Lib.hid hz1
    have HZ2 := Lib.hid hz2
    clear hi hz0 hz1 hz2
    have HBX : Hid (∀ o, (W2.alloc o).heap[g]? = some (.cells ((s.told t).cells (.slice none 0 0)) 107 (0, 0))) := Lib.hid (fun o => (Below.heap_alloc W2 o g HK2.out.lt).trans HK2.out)
    have hcA : ∀ k o, ((W2.drewN k).alloc o).cell? ⟨g, 11, none⟩ = some (.slice none 0 0) := fun k o => cell_at ((Below.heap_alloc W2 o g HK2.out.lt).trans HK2.out) 11
    have HNS : Hid (w.heap.size ≤ W2.heap.size) := Lib.hid HF2.out.size
    go_region_law (refine step_append_row rfl (.tmp 100) (.tmp 113) 105 rfl 111 i0 _ 6 48 Try.underlying105 HI.out HZ0.out HZ1.out HZ2.out rfl (by decide) _ none 0 [] rfl (Row.nil _ _ _) ⟨W2.heap.size, 0, none⟩ 1 1 [.int .i64 le, .int .i64 s.at_, .int .i64 sz, .int .i64 U, .int .i64 0, .int .i64 0] rfl (by decide) rfl (by intro j u hu; exact news_ag _ #[.int .i64 le, .int .i64 s.at_, .int .i64 sz, .int .i64 U, .int .i64 0, .int .i64 0] _ j u hu) (by intro u hu; exact (List.all_eq_true (p := fun u : Value => u.oneCell')).1 rfl u hu) (by unfold maxLen; omega) (by omega) ?_; intro v' ob' w2 hRow2 hG2 hOB2; obtain ⟨c2, rfl, hL2⟩ := row_one (x := ⟨le, s.at_, sz, U, 0, 0⟩) hRow2; have HL2 := Lib.hid hL2; have hb2 := grown_other hG2 (HBX.out _) (by simp); have HB2 := Lib.hid hb2; have HFR := Lib.hid (((HF2.out.drewN _).alloc _).grown hG2 (by intro k hk; cases hk)); have HOB : Hid (W2.heap.size < ob') := Lib.hid (by rcases hOB2 with e | e; cases e; rw [e]; simp); have o11 : w2.cell? ⟨g, 11, none⟩ = some (.slice none 0 0) := cell_at hb2 11; have x11 := free_at hb2 11; clear hRow2 hG2 hOB2 hL2 hb2)
    all_goals
      go_wp2_with fail
      rw [HQ.out]
      have hgb : ob' ≠ g := by have := HOB.out; have := HK2.out.lt; omega
      refine ⟨?_, .inl ⟨HMU.out, ob', c2, rfl, ⟨?_, ?_⟩, ?_⟩⟩
      · exact HFR.out.setCell ⟨g, 11, none⟩ (.inl (by simp)) _
      · exact Blk.set (h := HB2.out) 11 _
      · exact ⟨HL2.out.congr (heap_setCell_ne _ _ _ _ hgb), hgb⟩
      · have := HOB.out; have := HNS.out; omega
  · have HMU := Lib.hid hmu
    go_wp2_with fail
    rw [HQ.out]
    exact ⟨HF2.out.drewN _, .inr ⟨HMU.out, rfl, ⟨HK2.out, by unfold Hd.at_ maxLen; omega⟩⟩⟩
end Go.Proofs.Ytlgjdiadohhleaa
