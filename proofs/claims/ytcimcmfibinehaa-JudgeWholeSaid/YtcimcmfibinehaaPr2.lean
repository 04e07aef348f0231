/-
  weirref23.Build: the document's own answer.
-/
import Derived.Test.YtcimcmfibinehaaPr1
namespace Go.Proofs.Ytcimcmfibinehaa
open Go.RowKit
set_option linter.unusedSimpArgs false
set_option linter.unusedVariables false

theorem op_append_run {P : Program} {o : Oper} {a : Act} {K : Act → World → Prop} {Q : Exit → Act → World → Prop} {w w' : World} (s x : Operand) (t : TypeId)
    (ho : o.op = .call { callee := .builtin .append, args := #[s, x], argTypes := #[t, t] }) {v y v' : Value} (hs : a.eval s = v) (hx : a.eval x = y)
    (hr : (Builtin.append_ #[t, t] o.type #[v, y]).run P w = .ok v' w') (h : K (a.put o.dst v') w') : Oper.wp P o a w K Q := by
  unfold Oper.wp execOp
  simp only [ho, resolve, invoke, builtin, Sem.run_bind, Sem.run_pure, Result.andThen_ok, List.map_toArray, List.map_cons, List.map_nil, hs, hx, hr]
  exact h
theorem dN (w : World) (n : Nat) : Below w.heap.size w (w.drewN n) := ⟨rfl, rfl, rfl, Nat.le_refl _, fun _ _ => rfl⟩
theorem alloc_b9 (W : World) (o : Obj) : Below W.heap.size W (W.alloc o) := (Below.refl _ _).alloc (Nat.le_refl _) _
theorem by_grow {W : World} {M : Nat} {ty : TypeId} {v : Value} {ob : Option Nat} {n : Nat} {Y : Nat → Nat} {a : Option Addr} {m c b o : Nat} {X : Nat → Nat} (h : Row W v ob 5 1 n (rowV Y n)) (hO : ∀ g, ob = some g → M ≤ g) (h2 : ByIn W a m c b o X) (hM : M ≤ W.heap.size) (hn : n + m ≤ 1000000) :
    ∃ v' ob' w', (Builtin.append_ #[26, 26] ty #[v, .slice a m c]).run Try.prog W = .ok v' w' ∧ Row w' v' ob' 5 1 (n + m) (rowV (putB Y n X) (n + m)) ∧ (∀ g, ob' = some g → M ≤ g) ∧ Below M W w' ∧ W.grownBy w' ob ∧ (∀ g, ob' = some g → ob = some g ∨ g = W.heap.size) := by
  obtain ⟨i0, hi, hz0, hz1, hz2⟩ := info_parts infoU8'
  by_cases hm : m = 0
  · subst hm
    refine ⟨v, ob, W, run_append_row_zero W 26 ty 5 i0 1 Try.underlying26 hi v ob n (rowV Y n) h a c, ?_, hO, Below.refl _ _, ?_, fun g e => .inl e⟩
    · have e : rowV (putB Y n X) (n + 0) = rowV Y n := rowV_left Y X n
      rw [e]
      exact h
    · exact ⟨rfl, rfl, rfl, Nat.le_refl _, fun i hi hq => rfl⟩
  · obtain ⟨ea, hbl⟩ := h2.at_ (by omega)
    subst ea
    obtain ⟨v', ob', w', hrun, s1, s2, s3⟩ := run_append_row (P := Try.prog) W 26 ty 5 i0 _ 1 1 Try.underlying26 hi hz0 hz1 hz2 rfl (by decide) v ob n (rowV Y n) h ⟨b, o, none⟩ m c (rowV X m) (by omega) (by rw [rowV_len]; omega) (fun j u hu => by
      rw [addr_add]
      have hj : j < m := by have := (List.getElem?_eq_some_iff.1 hu).1; rwa [rowV_len] at this
      rw [rowV_at X m j hj] at hu
      rw [h2.cell j hj, ← hu]) (rowV_one X m) (by unfold maxLen; omega) (by omega)
    refine ⟨v', some ob', w', hrun, by rw [rowV_put]; exact s1, fun g e => ?_, (Below.refl M W).grown s2 hM hO, s2, fun g e => ?_⟩
    · obtain rfl := Option.some.inj e
      rcases s3 with h3 | h3
      · exact hO _ h3
      · omega
    · obtain rfl := Option.some.inj e
      exact s3
theorem head_row (t c n : Nat) : rowV (headB t c n) 8 = [.int .u8 105, .int .u8 (t : Nat), .int .u8 (c : Nat), .int .u8 0, .int .u8 ((n : Int) / 256), .int .u8 ((n : Int) % 256), .int .u8 0, .int .u8 0] := by
  simp [rowV, headB, List.range_succ]
set_option maxRecDepth 100000 in
set_option maxHeartbeats 16000000 in
theorem rbuild_any (num : Int) (t c : Nat) (a : Option Addr) (n ca b o : Nat) (X : Nat → Nat) (w : World) (h1 : ByIn w a n ca b o X) (ht : 1 ≤ t ∧ t ≤ 16) (hc : c ≤ 255) (hn : n ≤ 1492) :
    Calls Try.prog 12 #[.agg #[.int .i64 num, .int .i64 (t : Nat), .int .i64 (c : Nat), .slice a n ca]] w fun e w' => ∃ v ob, e = .returned (.tuple #[v, .int .i64 0]) ∧ Row w' v (some ob) 5 1 (8 + n) (rowV (fixB (putB (headB t c n) 8 X) (65535 - sumN16 (putB (headB t c n) 8 X) (8 + n))) (8 + n)) ∧ w.heap.size ≤ ob ∧ Below w.heap.size w w' := by
  obtain ⟨t1, t2⟩ := ht
  have d1 : decide ((t : Int) < 1) = false := by simp; omega
  have d2 : decide ((16 : Int) < t) = false := by simp; omega
  have d3 : decide ((c : Int) < 0) = false := by simp
  have d4 : decide ((255 : Int) < c) = false := by simp; omega
  have d5 : decide ((1492 : Int) < n) = false := by simp; omega
  have hm := h1.max
  have hl := h1.le
  unfold maxLen at hm
  have HA := Lib.hid h1
  have HN1492 : Hid (n ≤ 1492) := Lib.hid hn
  clear h1
  obtain ⟨N, hN⟩ : ∃ N, N = w.heap.size := ⟨_, rfl⟩
  obtain ⟨W1, hW1⟩ : ∃ W, W = w.alloc (.cells #[.int .i64 num, .int .i64 (t : Nat), .int .i64 (c : Nat), .slice a n ca] 29) := ⟨_, rfl⟩
  have hB1 : Below w.heap.size w W1 := by rw [hW1]; exact alloc_b9 _ _
  have HP1 := Lib.hid (show Blk W1 N #[.int .i64 num, .int .i64 (t : Nat), .int .i64 (c : Nat), .slice a n ca] 29 by rw [hW1, hN]; exact blk_new _ _ _)
  have HB1 := Lib.hid hB1
  have HNN : Hid (w.heap.size = N) := Lib.hid hN.symm
  clear hB1
  have wt8 : IntKind.u8.wrap (t : Int) = (t : Int) := by rw [IntKind.wrap_u8]; omega
  have wc8 : IntKind.u8.wrap (c : Int) = (c : Int) := by rw [IntKind.wrap_u8]; omega
  have wn8 : IntKind.u8.wrap ((n : Int) / 256) = (n : Int) / 256 := by rw [IntKind.wrap_u8]; omega
  have wn9 : IntKind.u8.wrap (n : Int) = (n : Int) % 256 := by rw [IntKind.wrap_u8]
  go_enter Try.func12, Try.ntmps12
  go_upto_region 1 with fail
  rw [← hN, ← hW1]
  clear hN hW1
  have p1 : W1.cell? ⟨N, 1, none⟩ = some (.int .i64 (t : Nat)) := cell_at HP1.out 1
  have p2 : W1.cell? ⟨N, 2, none⟩ = some (.int .i64 (c : Nat)) := cell_at HP1.out 2
  have p3 : W1.cell? ⟨N, 3, none⟩ = some (.slice a n ca) := cell_at HP1.out 3
  go_upto_region 6 with fail
  obtain ⟨NH, hNH⟩ : ∃ N, N = W1.heap.size := ⟨_, rfl⟩
  obtain ⟨W2, hW2⟩ : ∃ W, W = W1.alloc (.cells #[.int .u8 105, .int .u8 (t : Nat), .int .u8 (c : Nat), .int .u8 0, .int .u8 ((n : Int) / 256), .int .u8 ((n : Int) % 256), .int .u8 0, .int .u8 0] 5) := ⟨_, rfl⟩
  have hB2 : Below W1.heap.size W1 W2 := by rw [hW2]; exact alloc_b9 _ _
  have hh : Blk W2 NH #[.int .u8 105, .int .u8 (t : Nat), .int .u8 (c : Nat), .int .u8 0, .int .u8 ((n : Int) / 256), .int .u8 ((n : Int) % 256), .int .u8 0, .int .u8 0] 5 := by rw [hW2, hNH]; exact blk_new _ _ _
  have hrow : Row W2 (.slice (some ⟨NH, 0, none⟩) 8 8) (some NH) 5 1 8 (rowV (headB t c n) 8) := Row.mk hh (Nat.le_refl _) (by unfold maxLen; omega) rfl (by rw [head_row]; rfl)
  have HP2 := Lib.hid (HP1.out.step hB2)
  have HB2 := Lib.hid (HB1.out.trans (hB2.mono HB1.out.size))
  have hNHw : w.heap.size ≤ NH := by rw [hNH]; exact HB1.out.size
  obtain ⟨v3, ob3, W3, hrun3, hr3, ho3, hlo3, hg3, hs3⟩ := by_grow (M := w.heap.size) (ty := 26) hrow (fun g e => by obtain rfl := Option.some.inj e; exact hNHw) (HA.out.below HB2.out) HB2.out.size (by omega)
  have hZ : ∀ j, putB (headB t c n) 8 X j < 256 := head_bd (by omega) (by omega) (by omega) HA.out.bd
  obtain ⟨Z, hZe⟩ : ∃ Z, Z = putB (headB t c n) 8 X := ⟨_, rfl⟩
  rw [← hZe] at hr3 hZ
  obtain ⟨ob, rfl⟩ : ∃ g, ob3 = some g := by
    rcases hr3.cases with ⟨_, _, h, _⟩ | ⟨g, _, _, h, _⟩
    · omega
    · exact ⟨g, h⟩
  obtain ⟨av, cv, rfl, hby⟩ := row_by hr3 hZ
  have HRUN := Lib.hid hrun3
  have HR := Lib.hid hr3
  have HBY := Lib.hid hby
  have HOB := Lib.hid (ho3 ob rfl)
  have HB3 := Lib.hid (HB2.out.trans hlo3)
  have HZE := Lib.hid hZe
  have HS := Lib.hid (sumN16_le Z hZ (8 + n))
  have HZB := Lib.hid hZ
  have p3 : W2.cell? ⟨N, 3, none⟩ = some (.slice a n ca) := cell_at HP2.out 3
  rw [← hNH, ← hW2]
  clear hrun3 hr3 hby ho3 hlo3 hg3 hs3 hZ hZe hrow hh hB2 hNH hW2 hNHw p1 p2 wt8 wc8 wn8 wn9 d1 d2 d3 d4 d5
  go_wp2_with (at_builtin; refine Lib.wpList_append_run _ rfl (.tmp 44) (.tmp 46) 26 26 rfl _ _ rfl rfl _ _ HRUN.out ?_)
  go_at_call 25
  go_fit (rcheck_any _ _ _ _ _ Z _ HBY.out (by have := HN1492.out; omega))
  rintro e W4 ⟨rfl, rfl⟩
  obtain ⟨S, hS⟩ : ∃ S : Nat, (65535 : Int) - (sumN16 Z (8 + n) : Nat) = (S : Nat) := ⟨65535 - sumN16 Z (8 + n), by have := HS.out; omega⟩
  rw [hS]
  have hS9 : S ≤ 65535 := by omega
  obtain ⟨e0, _⟩ := HBY.out.at_ (by omega)
  simp only [Option.getD_some] at e0
  have HSS := Lib.hid hS
  subst e0
  obtain ⟨q6, hq6, hc6, hf6⟩ := HR.out.cell 6 (by omega)
  obtain rfl := Option.some.inj hq6
  obtain ⟨q7, hq7, hc7, hf7⟩ := HR.out.cell 7 (by omega)
  obtain rfl := Option.some.inj hq7
  rw [rowV_at Z (8 + n) 6 (by omega)] at hc6
  rw [rowV_at Z (8 + n) 7 (by omega)] at hc7
  have hlt := HR.out.lt
  have b6 : ((6 : Int) < ((8 + n : Nat) : Int)) = True := eq_true (by omega)
  have b7 : ((7 : Int) < ((8 + n : Nat) : Int)) = True := eq_true (by omega)
  have ws1 : IntKind.u8.wrap ((S : Int) / 256) = ((S / 256 : Nat) : Int) := by rw [IntKind.wrap_u8]; omega
  have ws2 : IntKind.u8.wrap (S : Int) = ((S % 256 : Nat) : Int) := by rw [IntKind.wrap_u8]; omega
  clear hS hq6 hq7 p3
  go_wp2_with fail
  try rw [Exit.noGoto_ret]
  refine bodyPost_ret (v := .tuple #[.slice (some ⟨ob, 0, none⟩) (8 + n) cv, .int .i64 0]) (by simp [results, Try.results12, go_sem]) rfl ⟨_, ob, rfl, ?_, HOB.out, ?_⟩
  · have hr := row_set (row_set HR.out 6 (by omega) (S / 256)) 7 (by omega) (S % 256)
    have e : rowV (fun j => if j = 7 then S % 256 else if j = 6 then S / 256 else Z j) (8 + n) = rowV (fixB Z (65535 - sumN16 Z (8 + n))) (8 + n) := by
      have e2 : S = 65535 - sumN16 Z (8 + n) := by have := HSS.out; have := HS.out; omega
      rw [← e2]
      congr 1
      funext j
      unfold fixB
      by_cases h6 : j = 6
      · subst h6; simp
      · simp [h6]
    rw [← HZE.out, ← e]
    exact hr
  · have := HOB.out
    exact (HB3.out.setCell (p := ⟨ob, 6, none⟩) (by simp only; omega) _).setCell (p := ⟨ob, 7, none⟩) (by simp only; omega) _
set_option maxRecDepth 100000 in
set_option maxHeartbeats 16000000 in
theorem rbuild_bad (num : Int) (t c : Nat) (a : Option Addr) (n ca : Nat) (w : World) (h : t < 1 ∨ 16 < t ∨ 1492 < n) (hc : c ≤ 255) (hn : n ≤ 9223372036854775000) :
    Calls Try.prog 12 #[.agg #[.int .i64 num, .int .i64 (t : Nat), .int .i64 (c : Nat), .slice a n ca]] w fun e w' => ∃ E : Int, e = .returned (.tuple #[.slice none 0 0, .int .i64 E]) ∧ E ≠ 0 ∧ Below w.heap.size w w' := by
  have d3 : decide ((c : Int) < 0) = false := by simp
  have d4 : decide ((255 : Int) < c) = false := by simp; omega
  obtain ⟨N, hN⟩ : ∃ N, N = w.heap.size := ⟨_, rfl⟩
  obtain ⟨W1, hW1⟩ : ∃ W, W = w.alloc (.cells #[.int .i64 num, .int .i64 (t : Nat), .int .i64 (c : Nat), .slice a n ca] 29) := ⟨_, rfl⟩
  have hB1 : Below w.heap.size w W1 := by rw [hW1]; exact alloc_b9 _ _
  have HP1 := Lib.hid (show Blk W1 N #[.int .i64 num, .int .i64 (t : Nat), .int .i64 (c : Nat), .slice a n ca] 29 by rw [hW1, hN]; exact blk_new _ _ _)
  have HB1 := Lib.hid hB1
  have p1 : W1.cell? ⟨N, 1, none⟩ = some (.int .i64 (t : Nat)) := cell_at HP1.out 1
  have p2 : W1.cell? ⟨N, 2, none⟩ = some (.int .i64 (c : Nat)) := cell_at HP1.out 2
  have p3 : W1.cell? ⟨N, 3, none⟩ = some (.slice a n ca) := cell_at HP1.out 3
  have hcs : (decide ((t : Int) < 1) = true) ∨ (decide ((t : Int) < 1) = false ∧ decide ((16 : Int) < t) = true) ∨ (decide ((t : Int) < 1) = false ∧ decide ((16 : Int) < t) = false ∧ decide ((1492 : Int) < n) = true) := by
    by_cases h1 : t < 1
    · exact .inl (decide_eq_true (by omega))
    · by_cases h2 : 16 < t
      · exact .inr (.inl ⟨decide_eq_false (by omega), decide_eq_true (by omega)⟩)
      · exact .inr (.inr ⟨decide_eq_false (by omega), decide_eq_false (by omega), decide_eq_true (by omega)⟩)
  clear h hc hB1
  rcases hcs with d1 | ⟨d1, d2⟩ | ⟨d1, d2, d5⟩
  · go_enter Try.func12, Try.ntmps12
    go_upto_region 1 with fail
    rw [← hN, ← hW1]
    clear hN hW1
    go_wp2_with fail
    try rw [Exit.noGoto_ret]
    exact bodyPost_ret (v := .tuple #[.slice none 0 0, .int .i64 2]) (by simp [results, Try.results12, go_sem]) rfl ⟨2, rfl, by decide, HB1.out⟩
  · go_enter Try.func12, Try.ntmps12
    go_upto_region 1 with fail
    rw [← hN, ← hW1]
    clear hN hW1
    go_wp2_with fail
    try rw [Exit.noGoto_ret]
    exact bodyPost_ret (v := .tuple #[.slice none 0 0, .int .i64 2]) (by simp [results, Try.results12, go_sem]) rfl ⟨2, rfl, by decide, HB1.out⟩
  · go_enter Try.func12, Try.ntmps12
    go_upto_region 1 with fail
    rw [← hN, ← hW1]
    clear hN hW1
    go_wp2_with fail
    try rw [Exit.noGoto_ret]
    exact bodyPost_ret (v := .tuple #[.slice none 0 0, .int .i64 3]) (by simp [results, Try.results12, go_sem]) rfl ⟨3, rfl, by decide, HB1.out⟩
end Go.Proofs.Ytcimcmfibinehaa
