/-
  Rows of entries that grow; rows made: the document.
-/
import Derived.Test.YtcadinoijclfnaaRob
import Derived.Deep.DeepFit
import Derived.Lib.AppendZeros
namespace Go.Proofs.Ytcadinoijclfnaa
open Go.RowKit
set_option linter.unusedSimpArgs false
set_option linter.unusedVariables false

theorem op_append_run {P : Program} {o : Oper} {a : Act} {K : Act → World → Prop} {Q : Exit → Act → World → Prop} {w w' : World} (s x : Operand) (t : TypeId)
    (ho : o.op = .call { callee := .builtin .append, args := #[s, x], argTypes := #[t, t] }) {v y v' : Value} (hs : a.eval s = v) (hx : a.eval x = y)
    (hr : (Builtin.append_ #[t, t] o.type #[v, y]).run P w = .ok v' w') (h : K (a.put o.dst v') w') : Oper.wp P o a w K Q := by
  unfold Oper.wp execOp
  simp only [ho, resolve, invoke, builtin, Sem.run_bind, Sem.run_pure, Result.andThen_ok, List.map_toArray, List.map_cons, List.map_nil, hs, hx, hr]
  exact h
/-- a row of entries of the call's own; their bytes lie in what was there -/
def OR (w0 : World) (M : Nat) (W : World) (v : Value) (ob : Option Nat) (L : List EnD) : Prop := w0.heap.size ≤ M ∧ ∃ F : Nat → DE, Row W v ob 47 5 L.length (dL F L.length) ∧ (∀ k, k < L.length → (F k).by_ w0) ∧ (∀ k, k < L.length → L[k]? = some (F k).pure) ∧ (∀ x ∈ L, x.ok) ∧ ∀ g, ob = some g → M ≤ g
theorem or_nil (w0 W : World) (M : Nat) (hM : w0.heap.size ≤ M) : OR w0 M W (.slice none 0 0) none [] := ⟨hM, fun _ => ⟨0, 0, 0, 0, none, 0, 0, 0, 0, fun _ => 0⟩, Row.nil _ _ _, fun k h => absurd h (by simp), fun k h => absurd h (by simp), fun x h => absurd h (by simp), fun g e => by cases e⟩
theorem OR.rv {w0 W : World} {M : Nat} {v : Value} {ob : Option Nat} {L : List EnD} (h : OR w0 M W v ob L) (hB : Below w0.heap.size w0 W) (hl : L.length ≤ 100000) : RV W v L := by
  obtain ⟨h0, F, h1, h2, h3, h4, _⟩ := h
  exact rv_row h1 (fun k hk => ByIn.below (h2 k hk) hB) rfl h3 h4 (by omega)
theorem dL_take (F : Nat → DE) (i : Nat) : ∀ m, (dL F (i + m)).take (i * 5) = dL F i
  | 0 => by rw [Nat.add_zero, List.take_of_length_le (by rw [dL_len]; exact Nat.le_refl _)]
  | m + 1 => by
    rw [← Nat.add_assoc, dL_succ, List.take_append_of_le_length (by rw [dL_len]; omega), dL_take F i m]
theorem Row.take {W : World} {a : Option Addr} {n c : Nat} {ob : Option Nat} {e : TypeId} {s : Nat} {xs : List Value} (h : Row W (.slice a n c) ob e s n xs) (i : Nat) (hi : i ≤ n) : Row W (.slice a i c) ob e s i (xs.take (i * s)) := by
  rcases h.cases with ⟨rfl, h1, rfl, rfl⟩ | ⟨g, cap, cur, rfl, h1, h3, h4, h5, h6, h7⟩
  · injection h1 with e1 e2 e3
    subst e1 e3
    obtain rfl : i = 0 := by omega
    rw [List.take_nil]
    exact Row.nil _ _ _
  · injection h1 with e1 e2 e3
    subst e1 e3
    refine Row.mk h3 (by omega) h5 h6 ?_
    rw [← h7, List.take_take, Nat.min_eq_left (Nat.mul_le_mul_right _ hi)]
theorem midA_zero {W : World} {a : Option Addr} {n c : Nat} {ob : Option Nat} {e : TypeId} {s m : Nat} {xs : List Value} (h : Row W (.slice a n c) ob e s n xs) : midA a 0 m = a := by
  unfold midA
  split
  · rfl
  · rcases h.cases with ⟨rfl, h1, rfl, rfl⟩ | ⟨g, cap, cur, rfl, h1, h3, h4, h5, h6, h7⟩
    · injection h1 with e1 e2 e3
      subst e1
      rfl
    · injection h1 with e1 e2 e3
      subst e1
      show some ((⟨g, 0, none⟩ : Addr).add (0 * 5)) = _
      rw [addr_add]
theorem OR.len {w0 W : World} {M : Nat} {a : Option Addr} {n c : Nat} {ob : Option Nat} {L : List EnD} (h : OR w0 M W (.slice a n c) ob L) : n = L.length := by
  obtain ⟨_, F, h1, _⟩ := h
  obtain ⟨a', c', e, _⟩ := h1.shape
  injection e
theorem OR.take {w0 W : World} {M : Nat} {a : Option Addr} {n c : Nat} {ob : Option Nat} {L : List EnD} (h : OR w0 M W (.slice a n c) ob L) (i : Nat) (hi : i ≤ n) : OR w0 M W (.slice a i c) ob (L.take i) := by
  have hn := h.len
  obtain ⟨h0, F, h1, h2, h3, h4, h5⟩ := h
  rw [← hn] at h1 h2 h3
  have hl : (L.take i).length = i := by rw [List.length_take]; omega
  refine ⟨h0, F, ?_, fun k hk => h2 k (by omega), fun k hk => ?_, fun x hx => h4 x (List.mem_of_mem_take hx), h5⟩
  · have := h1.take i hi
    obtain ⟨m, rfl⟩ : ∃ m, n = i + m := ⟨n - i, by omega⟩
    rw [dL_take] at this
    rwa [hl]
  · rw [List.getElem?_take, if_pos (by omega)]
    exact h3 k (by omega)
theorem appR {w0 W : World} {M : Nat} {ty : TypeId} {v v2 : Value} {ob : Option Nat} {L L2 : List EnD} (h : OR w0 M W v ob L) (h2 : RV w0 v2 L2) (hB : Below w0.heap.size w0 W) (hM : M ≤ W.heap.size) (hn : L.length + L2.length ≤ 100000) :
    ∃ v' ob' w', (Builtin.append_ #[22, 22] ty #[v, v2]).run Try.prog W = .ok v' w' ∧ OR w0 M w' v' ob' (L ++ L2) ∧ Below M W w' := by
  obtain ⟨hM0, F, r1, r2, r3, r4, r5⟩ := h
  obtain ⟨a2, c2, g2, o2, F2, rfl, d1, p1, k1, q1⟩ := h2
  obtain ⟨i0, hi, hz0, hz1, hz2⟩ := info_parts infoEn
  rcases Nat.eq_zero_or_pos L2.length with h0 | h0
  · have hL2 : L2 = [] := List.eq_nil_of_length_eq_zero h0
    rw [hL2, List.append_nil]
    exact ⟨v, ob, W, run_append_row_zero (P := Try.prog) (w := W) 22 ty 47 i0 5 Try.underlying22 hi v ob _ _ r1 a2 c2, ⟨hM0, F, r1, r2, r3, r4, r5⟩, Below.refl _ _⟩
  · have hp := (pc_din d1).below hB
    obtain ⟨e0, e1⟩ := hp.at_ h0
    simp only at e0 e1
    subst e0
    obtain ⟨v', ob', w', hrun, s1, s2, s3⟩ := run_append_row (P := Try.prog) W 22 ty 47 i0 _ 5 56 Try.underlying22 hi hz0 hz1 hz2 rfl (by decide) v ob L.length (dL F L.length) r1 ⟨g2, o2, none⟩ L2.length c2 (dL F2 L2.length) h0 hp.len (fun j u hu => by
      have hj : j < L2.length * 5 := by have := (List.getElem?_eq_some_iff.1 hu).1; rw [dL_len] at this; exact this
      rw [addr_add]
      exact (hp.cell j hj).trans hu) hp.one (by unfold maxLen; omega) (by omega)
    rw [← dL_cat] at s1
    refine ⟨v', some ob', w', hrun, ⟨hM0, catF L.length F F2, by rw [List.length_append]; exact s1, fun k hk => ?_, fun k hk => cat_pure r3 p1 k (by simpa using hk), fun x hx => ?_, fun g e => ?_⟩, ?_⟩
    · rw [List.length_append] at hk
      unfold catF
      split
      · exact r2 k (by assumption)
      · exact d1.ld _ (by omega)
    · rcases List.mem_append.1 hx with h | h
      · exact r4 x h
      · exact k1 x h
    · obtain rfl := Option.some.inj e
      rcases s3 with h | h
      · exact r5 _ h
      · omega
    · exact (Below.refl M W).grown s2 hM r5
theorem Blk.stepM {A B : World} {n M : Nat} {c : Array Value} {t : TypeId} (h : Blk A n c t) (hB : Below M A B) (hn : n < M) : Blk B n c t := (hB.block n hn).trans h
theorem OR.step {w0 A B : World} {M : Nat} {v : Value} {ob : Option Nat} {L : List EnD} (h : OR w0 M A v ob L) (hB : Below A.heap.size A B) : OR w0 M B v ob L := by
  obtain ⟨h0, F, h1, h2, h3, h4, h5⟩ := h
  exact ⟨h0, F, h1.congr fun g e => hB.block g (by subst e; exact h1.lt), h2, h3, h4, h5⟩
theorem OR.sh {w0 W : World} {M : Nat} {v : Value} {ob : Option Nat} {L : List EnD} (h : OR w0 M W v ob L) : ∃ a n c, v = .slice a n c ∧ Hid (n = L.length) ∧ n ≤ c ∧ c ≤ 9223372036854775807 := by
  obtain ⟨_, F, h1, _⟩ := h
  obtain ⟨a, c, e, h2, h3, _⟩ := h1.shape
  exact ⟨a, _, c, e, Lib.hid rfl, h2, by unfold maxLen at h3; exact h3⟩
def madeF (base term : Int) (L : List EnD) : RwR :=
  if 4096 < L.length then ⟨0, 0, [], 3⟩
  else if okE base term L ≠ 0 then ⟨0, 0, [], 90⟩
  else ⟨base, term, L, 0⟩
theorem madeF_join {base term : Int} {n : Nat} {L l : List EnD} (hn : n ≤ L.length) : madeF base term (L.take n ++ l) = ⟨zi (joinE base term n L l) base, zi (joinE base term n L l) term, zl (joinE base term n L l) (L.take n ++ l), joinE base term n L l⟩ := by
  have hl : (L.take n ++ l).length = n + l.length := by rw [List.length_append, List.length_take]; omega
  unfold madeF joinE
  rw [hl]
  by_cases h1 : 4096 < n + l.length
  · rw [if_pos h1, if_pos h1]
    rw [zi_ne (by decide), zi_ne (by decide), zl_ne (by decide)]
  · rw [if_neg h1, if_neg h1]
    rcases okE_two base term (L.take n ++ l) with h | h
    · rw [h, if_neg (by simp), zi_eq, zi_eq, zl_eq]
    · rw [h, if_pos (by simp), zi_ne (by decide), zi_ne (by decide), zl_ne (by decide)]
set_option maxRecDepth 100000 in
set_option maxHeartbeats 8000000 in
theorem rmade_any (base term : Int) (v : Value) (L : List EnD) (w : World) (h : RV w v L) (hd : dlB L) :
    Calls Try.prog 33 #[.int .i64 base, .int .i64 term, v] w fun e w' => RwE (madeF base term L) e w' ∧ Below w.heap.size w w' := by
  obtain ⟨a, ln, c, rfl, Hln, m1, m2, m3⟩ := h.sh
  have HV := Lib.hid h
  obtain ⟨P, hP⟩ : ∃ P, P = madeF base term L := ⟨_, rfl⟩
  rw [← hP]
  have hp := hP
  unfold madeF at hp
  have HP := Lib.hid hp
  have HCK := Lib.hid (fun W v (h : RV W v L) => rcheckR_any base term v L W h)
  have HCP := Lib.hid (fun W v (h : RV W v L) (hl : ln ≤ 4096) => copiedR_any v L W h (by rw [← Hln.out]; omega) hd)
  obtain ⟨E1, hE1⟩ : ∃ E1, E1 = okE base term L := ⟨_, rfl⟩
  have hE1c : E1 = 0 ∨ E1 = 90 := by rw [hE1]; exact okE_two _ _ _
  rw [← hE1] at HCK HP
  rw [← Hln.out] at HP
  clear h hP hp hE1 hd
  have HB : Hid (Below w.heap.size w w) := Lib.hid (Below.refl _ _)
  go_enter Try.func33, Try.ntmps33
  go_upto_region 1 with fail
  obtain ⟨N, hN⟩ : ∃ n0, n0 = w.heap.size := ⟨_, rfl⟩
  have HLON : Hid (w.heap.size ≤ N) := Lib.hid (by have := HB.out.size; omega)
  obtain ⟨W1, hA0⟩ : ∃ W0, W0 = w.alloc (.cells #[.int .i64 0, .int .i64 0, .slice none 0 0] 24) := ⟨_, rfl⟩
  have hB : Below w.heap.size w W1 := by rw [hA0]; exact (Below.refl _ _).alloc (Nat.le_refl _) _
  have hS0 : W1.heap.size = N + 1 := by rw [hA0]; simp [← hN]
  have HK1 := Lib.hid (show Blk W1 N #[.int .i64 0, .int .i64 0, .slice none 0 0] 24 by rw [hA0, hN]; exact blk_new _ _ _)
  replace HB := Lib.hid (HB.out.trans (hB.mono HB.out.size))
  replace HV := Lib.hid (HV.out.below hB)
  clear hB
  have HSN := Lib.hid hS0
  rw [← hN, ← hA0]
  clear hA0 hN hS0
  by_cases k1 : 4096 < ln
  · skip
    rw [if_pos k1] at HP
    obtain rfl := HP.out
    have d1 : decide ((4096 : Int) < (ln : Int)) = true := decide_eq_true (by omega)
    have qK10 : W1.cell? ⟨N, 0, none⟩ = some (.int .i64 0) := cell_at HK1.out 0
    have qK11 : W1.cell? ⟨N, 1, none⟩ = some (.int .i64 0) := cell_at HK1.out 1
    have qK12 : W1.cell? ⟨N, 2, none⟩ = some (.slice none 0 0) := cell_at HK1.out 2
    have qK1z : ∀ j, W1.frozen? ⟨N, j, none⟩ = false := fun j => free_at HK1.out j
    have qK1l : N < W1.heap.size := HK1.out.lt
    go_wp2_with fail
    clear qK10 qK11 qK12 qK1z qK1l
    obtain ⟨LS, hLS⟩ : ∃ L : List Value, L = [.int .i64 0, .int .i64 0, .slice none 0 0] := ⟨_, rfl⟩
    obtain ⟨W2, hWS⟩ : ∃ WS, WS = W1.setCells N 0 LS := ⟨_, rfl⟩
    have hch := hWS
    rw [hLS] at hch
    simp only [World.setCells, Nat.zero_add, Nat.reduceAdd] at hch
    rw [← hch]
    clear hch
    have hkS := stC_blk HK1.out LS (by rw [hLS]; rfl)
    have hfS := stC_fr N LS 0 W1
    rw [← hWS] at hkS hfS
    rw [hLS] at hkS
    replace HB := Lib.hid (HB.out.trans (hfS.below HB.out.size (by have := HLON.out; simp; try omega)))
    replace HV := Lib.hid (HV.out.fr HK1.out hfS)
    replace HK1 := Lib.hid (show Blk W2 N #[.int .i64 0, .int .i64 0, .slice none 0 0] 24 from hkS)
    clear hWS hLS hkS hfS
    have qK10 : W2.cell? ⟨N, 0, none⟩ = some (.int .i64 0) := cell_at HK1.out 0
    have qK11 : W2.cell? ⟨N, 1, none⟩ = some (.int .i64 0) := cell_at HK1.out 1
    have qK12 : W2.cell? ⟨N, 2, none⟩ = some (.slice none 0 0) := cell_at HK1.out 2
    have qK1z : ∀ j, W2.frozen? ⟨N, j, none⟩ = false := fun j => free_at HK1.out j
    have qK1l : N < W2.heap.size := HK1.out.lt
    exact bodyPost_ret (v := .tuple #[.agg #[.int .i64 0, .int .i64 0, .slice none 0 0], .int .i64 3]) (by simp [results, Try.results33, go_sem, qK10, qK11, qK12]) rfl ⟨⟨_, rfl, rv_nil _⟩, HB.out⟩
  · skip
    rw [if_neg k1] at HP
    have d1 : decide ((4096 : Int) < (ln : Int)) = false := decide_eq_false (by omega)
    go_wp2_with fail
    go_at_call 38
    go_fit (HCP.out _ _ HV.out (by omega))
    rintro e W2 ⟨v2, rfl, hv2, hB⟩
    replace HB := Lib.hid (HB.out.trans (hB.mono HB.out.size))
    replace HV := Lib.hid (HV.out.below hB)
    replace HK1 := Lib.hid (HK1.out.step hB)
    clear hB
    obtain ⟨a2, l2, c2, rfl, Hl2, l21, l22, l23⟩ := hv2.sh
    have HV2 := Lib.hid hv2
    clear hv2
    go_upto_region 4 with fail
    obtain ⟨M, hM⟩ : ∃ n0, n0 = W2.heap.size := ⟨_, rfl⟩
    have HXMHK1 : Hid (N < M) := Lib.hid (by rw [hM]; exact HK1.out.lt)
    have HLOM : Hid (w.heap.size ≤ M) := Lib.hid (by have := HB.out.size; omega)
    obtain ⟨W3, hA0⟩ : ∃ W0, W0 = W2.alloc (.cells #[.int .i64 base, .int .i64 term, .slice a2 l2 c2] 24) := ⟨_, rfl⟩
    have hB : Below W2.heap.size W2 W3 := by rw [hA0]; exact (Below.refl _ _).alloc (Nat.le_refl _) _
    have hS0 : W3.heap.size = M + 1 := by rw [hA0]; simp [← hM]
    have HM := Lib.hid (show Blk W3 M #[.int .i64 base, .int .i64 term, .slice a2 l2 c2] 24 by rw [hA0, hM]; exact blk_new _ _ _)
    replace HB := Lib.hid (HB.out.trans (hB.mono HB.out.size))
    replace HV := Lib.hid (HV.out.below hB)
    replace HK1 := Lib.hid (HK1.out.step hB)
    replace HV2 := Lib.hid (HV2.out.below hB)
    clear hB
    have HSM := Lib.hid hS0
    rw [← hM, ← hA0]
    clear hA0 hM hS0
    have qM0 : W3.cell? ⟨M, 0, none⟩ = some (.int .i64 base) := cell_at HM.out 0
    have qM1 : W3.cell? ⟨M, 1, none⟩ = some (.int .i64 term) := cell_at HM.out 1
    have qM2 : W3.cell? ⟨M, 2, none⟩ = some (.slice a2 l2 c2) := cell_at HM.out 2
    have qMz : ∀ j, W3.frozen? ⟨M, j, none⟩ = false := fun j => free_at HM.out j
    have qMl : M < W3.heap.size := HM.out.lt
    go_wp2_with fail
    go_at_call 21
    go_fit (HCK.out _ _ HV2.out)
    rintro e W4 ⟨rfl, hB⟩
    clear qM0 qM1 qM2 qMz qMl
    replace HB := Lib.hid (HB.out.trans (hB.mono HB.out.size))
    replace HV := Lib.hid (HV.out.below hB)
    replace HK1 := Lib.hid (HK1.out.step hB)
    replace HV2 := Lib.hid (HV2.out.below hB)
    replace HM := Lib.hid (HM.out.step hB)
    clear hB
    rcases hE1c with rfl | rfl
    · skip
      rw [if_neg (by simp)] at HP
      obtain rfl := HP.out
      have qK10 : W4.cell? ⟨N, 0, none⟩ = some (.int .i64 0) := cell_at HK1.out 0
      have qK11 : W4.cell? ⟨N, 1, none⟩ = some (.int .i64 0) := cell_at HK1.out 1
      have qK12 : W4.cell? ⟨N, 2, none⟩ = some (.slice none 0 0) := cell_at HK1.out 2
      have qK1z : ∀ j, W4.frozen? ⟨N, j, none⟩ = false := fun j => free_at HK1.out j
      have qK1l : N < W4.heap.size := HK1.out.lt
      have qM0 : W4.cell? ⟨M, 0, none⟩ = some (.int .i64 base) := cell_at HM.out 0
      have qM1 : W4.cell? ⟨M, 1, none⟩ = some (.int .i64 term) := cell_at HM.out 1
      have qM2 : W4.cell? ⟨M, 2, none⟩ = some (.slice a2 l2 c2) := cell_at HM.out 2
      have qMz : ∀ j, W4.frozen? ⟨M, j, none⟩ = false := fun j => free_at HM.out j
      have qMl : M < W4.heap.size := HM.out.lt
      go_wp2_with fail
      clear qK10 qK11 qK12 qK1z qK1l qM0 qM1 qM2 qMz qMl
      obtain ⟨LS, hLS⟩ : ∃ L : List Value, L = [.int .i64 base, .int .i64 term, .slice a2 l2 c2] := ⟨_, rfl⟩
      obtain ⟨W5, hWS⟩ : ∃ WS, WS = W4.setCells N 0 LS := ⟨_, rfl⟩
      have hch := hWS
      rw [hLS] at hch
      simp only [World.setCells, Nat.zero_add, Nat.reduceAdd] at hch
      rw [← hch]
      clear hch
      have hkS := stC_blk HK1.out LS (by rw [hLS]; rfl)
      have hfS := stC_fr N LS 0 W4
      rw [← hWS] at hkS hfS
      rw [hLS] at hkS
      replace HB := Lib.hid (HB.out.trans (hfS.below HB.out.size (by have := HLON.out; simp; try omega)))
      replace HV := Lib.hid (HV.out.fr HK1.out hfS)
      replace HV2 := Lib.hid (HV2.out.fr HK1.out hfS)
      replace HM := Lib.hid (show Blk W5 M #[.int .i64 base, .int .i64 term, .slice a2 l2 c2] 24 from (hfS.block _ HM.out.lt (by have hx0 := HXMHK1.out; simp; try omega)).trans HM.out)
      replace HK1 := Lib.hid (show Blk W5 N #[.int .i64 base, .int .i64 term, .slice a2 l2 c2] 24 from hkS)
      clear hWS hLS hkS hfS
      have qK10 : W5.cell? ⟨N, 0, none⟩ = some (.int .i64 base) := cell_at HK1.out 0
      have qK11 : W5.cell? ⟨N, 1, none⟩ = some (.int .i64 term) := cell_at HK1.out 1
      have qK12 : W5.cell? ⟨N, 2, none⟩ = some (.slice a2 l2 c2) := cell_at HK1.out 2
      have qK1z : ∀ j, W5.frozen? ⟨N, j, none⟩ = false := fun j => free_at HK1.out j
      have qK1l : N < W5.heap.size := HK1.out.lt
      exact bodyPost_ret (v := .tuple #[.agg #[.int .i64 base, .int .i64 term, .slice a2 l2 c2], .int .i64 0]) (by simp [results, Try.results33, go_sem, qK10, qK11, qK12]) rfl ⟨⟨_, rfl, HV2.out⟩, HB.out⟩
    · skip
      rw [if_pos (by simp)] at HP
      obtain rfl := HP.out
      have qK10 : W4.cell? ⟨N, 0, none⟩ = some (.int .i64 0) := cell_at HK1.out 0
      have qK11 : W4.cell? ⟨N, 1, none⟩ = some (.int .i64 0) := cell_at HK1.out 1
      have qK12 : W4.cell? ⟨N, 2, none⟩ = some (.slice none 0 0) := cell_at HK1.out 2
      have qK1z : ∀ j, W4.frozen? ⟨N, j, none⟩ = false := fun j => free_at HK1.out j
      have qK1l : N < W4.heap.size := HK1.out.lt
      go_wp2_with fail
      clear qK10 qK11 qK12 qK1z qK1l
      obtain ⟨LS, hLS⟩ : ∃ L : List Value, L = [.int .i64 0, .int .i64 0, .slice none 0 0] := ⟨_, rfl⟩
      obtain ⟨W5, hWS⟩ : ∃ WS, WS = W4.setCells N 0 LS := ⟨_, rfl⟩
      have hch := hWS
      rw [hLS] at hch
      simp only [World.setCells, Nat.zero_add, Nat.reduceAdd] at hch
      rw [← hch]
      clear hch
      have hkS := stC_blk HK1.out LS (by rw [hLS]; rfl)
      have hfS := stC_fr N LS 0 W4
      rw [← hWS] at hkS hfS
      rw [hLS] at hkS
      replace HB := Lib.hid (HB.out.trans (hfS.below HB.out.size (by have := HLON.out; simp; try omega)))
      replace HV := Lib.hid (HV.out.fr HK1.out hfS)
      replace HV2 := Lib.hid (HV2.out.fr HK1.out hfS)
      replace HM := Lib.hid (show Blk W5 M #[.int .i64 base, .int .i64 term, .slice a2 l2 c2] 24 from (hfS.block _ HM.out.lt (by have hx0 := HXMHK1.out; simp; try omega)).trans HM.out)
      replace HK1 := Lib.hid (show Blk W5 N #[.int .i64 0, .int .i64 0, .slice none 0 0] 24 from hkS)
      clear hWS hLS hkS hfS
      have qK10 : W5.cell? ⟨N, 0, none⟩ = some (.int .i64 0) := cell_at HK1.out 0
      have qK11 : W5.cell? ⟨N, 1, none⟩ = some (.int .i64 0) := cell_at HK1.out 1
      have qK12 : W5.cell? ⟨N, 2, none⟩ = some (.slice none 0 0) := cell_at HK1.out 2
      have qK1z : ∀ j, W5.frozen? ⟨N, j, none⟩ = false := fun j => free_at HK1.out j
      have qK1l : N < W5.heap.size := HK1.out.lt
      exact bodyPost_ret (v := .tuple #[.agg #[.int .i64 0, .int .i64 0, .slice none 0 0], .int .i64 90]) (by simp [results, Try.results33, go_sem, qK10, qK11, qK12]) rfl ⟨⟨_, rfl, rv_nil _⟩, HB.out⟩
end Go.Proofs.Ytcadinoijclfnaa
