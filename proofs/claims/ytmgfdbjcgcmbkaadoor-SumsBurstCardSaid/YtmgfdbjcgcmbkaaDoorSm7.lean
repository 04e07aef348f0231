/-
  The law SumsPieces, walked: sums of pieces are that of the whole.
-/
import Derived.Test.YtmgfdbjcgcmbkaaDoorSm6
import Derived.Laws.OwnMore
namespace Go.Proofs.YtmgfdbjcgcmbkaaDoor
open Go.RowKit
set_option linter.unusedSimpArgs false
set_option linter.unusedVariables false

section
variable {P : Program} (w : World)
theorem run_append_row_zero (t ty e : TypeId) (i : TypeInfo) (size : Nat) (ht : P.underlying t = some (.slice e)) (hi : P.info? e = some i) (v : Value) (ob : Option Nat) (n : Nat) (xs : List Value) (hrow : Row w v ob e size n xs) (ad : Option Addr) (c : Nat) :
    (Builtin.append_ #[t, t] ty #[v, .slice ad 0 c]).run P w = .ok v w := by
  cases ad with
  | none =>
    rcases hrow.cases with ⟨rfl, rfl, rfl, rfl⟩ | ⟨g, cap, cur, rfl, rfl, hg, hnc, hcm, hcs, htake⟩
    · simp [Builtin.append_, run_underlying ht, sizeOf, typeInfo, hi, Builtin.lenOf, Builtin.firstCells]
    · simp [Builtin.append_, run_underlying ht, sizeOf, typeInfo, hi, Builtin.lenOf, Builtin.firstCells, hnc, storeCells]
  | some a =>
    rcases hrow.cases with ⟨rfl, rfl, rfl, rfl⟩ | ⟨g, cap, cur, rfl, rfl, hg, hnc, hcm, hcs, htake⟩
    · simp [Builtin.append_, run_underlying ht, sizeOf, typeInfo, hi, Builtin.lenOf, Builtin.firstCells, loadCells, loadCellsFrom]
    · simp [Builtin.append_, run_underlying ht, sizeOf, typeInfo, hi, Builtin.lenOf, Builtin.firstCells, hnc, storeCells, loadCells, loadCellsFrom]
theorem wpList_append_row_zero {ops : Array Oper} {rest : List Oper} {o : Oper} {a : Act} {Q : Exit → Act → World → Prop} (hgd : o.guard = none) (s x : Operand) (t : TypeId)
    (ho : o.op = .call { callee := .builtin .append, args := #[s, x], argTypes := #[t, t] }) (e : TypeId) (i : TypeInfo) (size : Nat) (ht : P.underlying t = some (.slice e)) (hi : P.info? e = some i)
    (v : Value) (ob : Option Nat) (n : Nat) (xs : List Value) (hs : a.eval s = v) (hrow : Row w v ob e size n xs) (ad : Option Addr) (c : Nat) (hx : a.eval x = .slice ad 0 c)
    (h : wpList P ops Q rest (a.put o.dst v) w) : wpList P ops Q (o :: rest) a w := by
  refine wpList_plain hgd fun K hK => ?_
  have hrun := run_append_row_zero (P := P) w t o.type e i size ht hi v ob n xs hrow ad c
  unfold Oper.wp execOp
  simp only [ho, resolve, invoke, builtin, Sem.run_bind, Sem.run_pure, Result.andThen_ok, List.map_toArray, List.map_cons, List.map_nil, hs, hx, hrun]
  exact hK _ _ h
end

/-- A piece: where it lies, and its bytes. -/
structure Pc where
  ad : Option Addr
  n : Nat
  c : Nat
  b : Nat
  o : Nat
  X : Nat → Nat
structure PcIn (W : World) (a : Option Addr) (len cap : Nat) (b o : Nat) (P : Nat → Pc) : Prop where
  le : len ≤ cap
  max : cap ≤ maxLen
  at_ : 0 < len → a = some ⟨b, o, none⟩ ∧ b < W.heap.size
  cell : ∀ k, k < len → W.cell? ⟨b, o + k, none⟩ = some (.slice (P k).ad (P k).n (P k).c)
  each : ∀ k, k < len → ByIn W (P k).ad (P k).n (P k).c (P k).b (P k).o (P k).X ∧ (P k).n ≤ 140737488351232
theorem pc_cells (W : World) {a : Option Addr} {len cap : Nat} {xs : List Dt} (h : SliceFits Tryd.prog W 22 a len cap xs) : ∃ (b o : Nat) (P : Nat → Pc), PcIn W a len cap b o P := by
  have hc : Tryd.prog.cellsOf 22 = 1 := by kernel_rfl
  have hby : Tryd.prog.bytesOf 5 = 1 := by kernel_rfl
  obtain ⟨b, o, h1, h2⟩ := h.spot (by rw [hc]; omega)
  have hex : ∀ k, ∃ q : Pc, k < len → W.cell? ⟨b, o + k, none⟩ = some (.slice q.ad q.n q.c) ∧ ByIn W q.ad q.n q.c q.b q.o q.X ∧ q.n ≤ 140737488351232 := fun k => by
    by_cases hk : k < len
    · have hl := h.length
      have hx := List.getElem?_eq_getElem (l := xs) (i := k) (by omega)
      obtain ⟨ad, n, c, ys, e0, g0⟩ := (h.each k _ hx).1.slice_inv Tryd.underlying22
      have hcell := h2 k _ hx
      rw [e0, hc] at hcell
      obtain ⟨pb, po, X, hX⟩ := by_cells W g0
      have hs := g0.short
      rw [hby] at hs
      exact ⟨⟨ad, n, c, pb, po, X⟩, fun _ => ⟨by have := hcell 0 _ rfl; rwa [Nat.mul_one] at this, hX, by simpa using hs⟩⟩
    · exact ⟨⟨none, 0, 0, 0, 0, fun _ => 0⟩, fun h => absurd h hk⟩
  have hg := fun k => Classical.choose_spec (hex k)
  exact ⟨b, o, fun k => Classical.choose (hex k), h.le, h.max, h1, fun k hk => (hg k hk).1, fun k hk => (hg k hk).2⟩
theorem PcIn.below {W W' : World} {a : Option Addr} {len cap b o : Nat} {P : Nat → Pc} (h : PcIn W a len cap b o P) (hB : Below W.heap.size W W') : PcIn W' a len cap b o P :=
  ⟨h.le, h.max, fun hk => ⟨(h.at_ hk).1, by have := (h.at_ hk).2; have := hB.size; omega⟩, fun k hk => (hB.cell (p := ⟨b, _, none⟩) (h.at_ (by omega)).2).trans (h.cell k hk), fun k hk => ⟨(h.each k hk).1.below hB, (h.each k hk).2⟩⟩

/-- some bytes, and more of them -/
def putB (Y : Nat → Nat) (n : Nat) (X : Nat → Nat) (j : Nat) : Nat := if j < n then Y j else X (j - n)
def rowV (Y : Nat → Nat) (n : Nat) : List Value := (List.range n).map fun j => .int .u8 (Y j : Nat)
theorem rowV_len (Y : Nat → Nat) (n : Nat) : (rowV Y n).length = n := by simp [rowV]
theorem rowV_at (Y : Nat → Nat) (n j : Nat) (h : j < n) : (rowV Y n)[j]? = some (.int .u8 (Y j : Nat)) := by simp [rowV, h]
theorem rowV_put (Y X : Nat → Nat) (n m : Nat) : rowV (putB Y n X) (n + m) = rowV Y n ++ rowV X m := by
  refine List.ext_getElem? fun j => ?_
  rw [List.getElem?_append, rowV_len]
  by_cases h : j < n
  · rw [if_pos h, rowV_at _ _ _ (by omega), rowV_at _ _ _ h, putB, if_pos h]
  · rw [if_neg h]
    by_cases h2 : j < n + m
    · rw [rowV_at _ _ _ h2, rowV_at _ _ _ (by omega), putB, if_neg h]
    · rw [List.getElem?_eq_none (by rw [rowV_len]; omega), List.getElem?_eq_none (by rw [rowV_len]; omega)]
theorem runB_congr (A B : Nat → Nat) (r : Nat) : ∀ n, (∀ j, j < n → A j = B j) → runB A r n = runB B r n
  | 0, _ => rfl
  | n + 1, h => by show byt _ _ = byt _ _; rw [runB_congr A B r n (fun j hj => h j (by omega)), h n (by omega)]
theorem runB_put (Y X : Nat → Nat) (n r : Nat) : ∀ m, runB (putB Y n X) r (n + m) = runB X (runB Y r n) m
  | 0 => runB_congr _ _ _ _ fun j hj => by unfold putB; rw [if_pos (by omega)]
  | m + 1 => by
    show byt (runB (putB Y n X) r (n + m)) (putB Y n X (n + m)) = byt _ _
    rw [runB_put Y X n r m, putB, if_neg (by omega), show n + m - n = m by omega]
theorem more_put (Y X : Nat → Nat) (n m : Nat) : moreN (moreN 0 Y n) X m = moreN 0 (putB Y n X) (n + m) := by
  unfold moreN
  rw [cpl_cpl, runB_put]
theorem moreN_lt (s : Nat) (X : Nat → Nat) (len : Nat) (hs : s < 4294967296) (hX : ∀ j, X j < 256) : moreN s X len < 4294967296 := cpl_lt (runB_lt X _ (cpl_lt hs) len (fun j _ => hX j))

/-- how it stands behind some pieces -/
def PsI (w wr : World) (v vm : Value) : Prop := ∃ (n : Nat) (Y : Nat → Nat) (ob : Option Nat), n ≤ 20000 ∧ (∀ j, Y j < 256) ∧ vm = .int .u32 (moreN 0 Y n : Nat) ∧ Row wr v ob 5 1 n (rowV Y n) ∧ (∀ g, ob = some g → w.heap.size ≤ g) ∧ Below w.heap.size w wr
theorem infoU8' : (Tryd.prog.info? 5).map (fun i => (i.zero, i.size, i.bytes)) = some (some (.int .u8 0), 1, 1) := by kernel_rfl
theorem rowV_one (Y : Nat → Nat) (n : Nat) : ∀ u ∈ rowV Y n, u.oneCell' = true := by
  intro u hu
  simp only [rowV, List.mem_map] at hu
  obtain ⟨j, _, rfl⟩ := hu
  rfl
theorem addr_add (b o j : Nat) : (⟨b, o, none⟩ : Addr).add j = ⟨b, o + j, none⟩ := by
  unfold Addr.add
  split <;> simp_all
theorem row_by {W : World} {v : Value} {ob : Option Nat} {n : Nat} {Y : Nat → Nat} (h : Row W v ob 5 1 n (rowV Y n)) (hY : ∀ j, Y j < 256) : ∃ a cap, v = .slice a n cap ∧ ByIn W a n cap (ob.getD 0) 0 Y := by
  obtain ⟨a, cap, rfl, h1, h2, h3⟩ := h.shape
  refine ⟨a, cap, rfl, h1, h2, fun hn => ?_, fun k hk => ?_, hY⟩
  · obtain ⟨g, hg, hc, _⟩ := h.cell 0 (by omega)
    subst hg
    exact ⟨h3, h.lt⟩
  · obtain ⟨g, hg, hc, _⟩ := h.cell k (by omega)
    subst hg
    rw [Nat.zero_add, Option.getD_some, hc, rowV_at Y n k hk]

set_option maxRecDepth 100000 in
set_option maxHeartbeats 8000000 in
theorem sumsPieces_any (a : Option Addr) (len cap b o : Nat) (P : Nat → Pc) (w : World) (ht : Tab w) (hp : PcIn w a len cap b o P) :
    Calls Tryd.prog 5 #[.slice a len cap] w fun e w' => e = .returned (.bool true) ∧ Below w.heap.size w w' := by
  have hl := hp.le
  have hm := hp.max
  unfold maxLen at hm
  obtain ⟨i0, hi, hz0, hz1, hz2⟩ := info_parts infoU8'
  have HI := Lib.hid hi
  have HZ0 := Lib.hid hz0
  have HZ1 := Lib.hid hz1
  have HZ2 := Lib.hid hz2
  have HT := Lib.hid ht
  have HP := Lib.hid hp
  clear ht hp hi hz0 hz1 hz2
  go_enter Tryd.func5, Tryd.ntmps5
  go_wp2_with fail
  go_loopw [3, 4, 5] (fun v vm i wr => ∃ k : Nat, k ≤ len ∧ i = .int .i64 k ∧ PsI w wr v vm) (fun _ _ i _ => len - (intOf i).toNat)
  case atStart => exact ⟨0, Nat.zero_le _, rfl, 0, fun _ => 0, none, by omega, (fun _ => by show 0 < 256; omega), by rw [nil_sum]; rfl, Row.nil _ _ _, (fun _ h => by cases h), Below.refl _ _⟩
  case round =>
    obtain ⟨k, hk, rfl, n, Y, ob, hn, hY, rfl, hr, hob, hB⟩ := hrel
    have HTr := Lib.hid (HT.out.below hB)
    obtain ⟨av, cv, rfl, hYin⟩ := row_by hr hY
    have hcv1 := hYin.le
    have hcv2 := hYin.max
    unfold maxLen at hcv2
    by_cases hlt : k < len
    · have HPr := Lib.hid (HP.out.below hB)
      obtain ⟨e0, e1⟩ := HPr.out.at_ (by omega)
      subst e0
      have k0 := HPr.out.cell k hlt
      obtain ⟨hx, hx2⟩ := HPr.out.each k hlt
      obtain ⟨pc, hpc⟩ : ∃ pc, pc = P k := ⟨_, rfl⟩
      rw [← hpc] at k0 hx hx2
      have HPC0 := Lib.hid hpc.symm
      obtain ⟨pad, m, pcc, pb, po, X⟩ := pc
      simp only at k0 hx hx2
      have hxl := hx.le
      have hxm := hx.max
      unfold maxLen at hxm
      have HX := Lib.hid hx
      have HR := Lib.hid hr
      have HOB := Lib.hid hob
      have HB := Lib.hid hB
      have HY := Lib.hid hY
      have hMl := moreN_lt 0 Y n (by omega) hY
      have HMP := Lib.hid (more_put Y X n m)
      obtain ⟨M, hM⟩ : ∃ M, M = moreN 0 Y n := ⟨_, rfl⟩
      rw [← hM] at hMl HMP ⊢
      have HPK : Hid (∀ W, Below w.heap.size w W → ByIn W pad m pcc pb po X) := Lib.hid (fun W h => by have := ((HP.out.below h).each k hlt).1; rw [← hpc] at this; exact this)
      clear hpc hx hr hob hB hY hYin hM
      by_cases hbig : 20000 < n + m
      · have d1 : decide ((20000 : Int) < (n : Int) + (m : Int)) = true := by simp; omega
        go_wp2_with (go_at_call 7; refine (mwakes_any _ HTr.out).mono ?_; rintro e WK ⟨rfl, hWK⟩)
        go_ret
        exact ⟨rfl, HB.out.trans (hWK.mono HB.out.size)⟩
      · have d1 : decide ((20000 : Int) < (n : Int) + (m : Int)) = false := by simp; omega
        by_cases h2000 : 2000 < k
        · have d2 : decide ((2000 : Int) < (k : Int)) = true := by simp; omega
          go_wp2_with (go_at_call 7; refine (mwakes_any _ HTr.out).mono ?_; rintro e WK ⟨rfl, hWK⟩)
          go_ret
          exact ⟨rfl, HB.out.trans (hWK.mono HB.out.size)⟩
        · have d2 : decide ((2000 : Int) < (k : Int)) = false := by simp; omega
          have C1 : Hid (∀ W, Tab W → ByIn W pad m pcc pb po X → Calls Tryd.prog 10 #[.int .u32 (M : Nat), .slice pad m pcc] W fun e w' => e = .returned (.int .u32 (moreN 0 (putB Y n X) (n + m) : Nat)) ∧ W = w') := Lib.hid (fun W h1 h2 => by rw [← HMP.out]; exact more_any M hMl pad m pcc pb po X W h1 h2)
          have HXb := Lib.hid HX.out.bd
          obtain ⟨M2, hM2⟩ : ∃ M2, M2 = moreN 0 (putB Y n X) (n + m) := ⟨_, rfl⟩
          rw [← hM2] at C1
          have HM2 := Lib.hid hM2
          clear hM2
          by_cases hm0 : m = 0
          · subst hm0
            go_wp2_with (at_builtin; refine wpList_append_row_zero _ rfl (.tmp 26) (.tmp 30) 22 rfl 5 i0 1 Tryd.underlying22 HI.out _ ob n (rowV Y n) rfl HR.out _ _ rfl ?_)
            go_at_call 10
            refine (C1.out _ HTr.out HX.out).mono ?_
            rintro e w' ⟨rfl, rfl⟩
            go_wp2_with fail
            go_roundw
            case rel => exact ⟨k + 1, by omega, by go_num, n, putB Y n X, ob, hn, (fun j => by unfold putB; split; exact HY.out j; exact HXb.out _), by rw [HM2.out]; rfl, by have h := rowV_put Y X n 0; rw [Nat.add_zero] at h; rw [h]; simpa [rowV] using HR.out, HOB.out, HB.out⟩
            case measure => first | (simp [intOf]; done) | (simp [intOf]; omega)
          · obtain ⟨e2, e3⟩ := HX.out.at_ (by omega)
            subst e2
            go_wp2_with (at_builtin; refine wpList_append_row _ rfl (.tmp 26) (.tmp 30) 22 rfl 5 i0 _ 1 1 Tryd.underlying22 HI.out HZ0.out HZ1.out HZ2.out rfl (by decide) _ ob n (rowV Y n) rfl HR.out ⟨pb, po, none⟩ m pcc (rowV X m) rfl (by omega) ?c0 ?c1 (rowV_one X m) ?c3 ?c4 ?_)
            case c0 => rw [rowV_len]; omega
            case c1 =>
              intro j u hu
              have hj : j < m := by have := (List.getElem?_eq_some_iff.1 hu).1; rwa [rowV_len] at this
              rw [rowV_at X m j hj] at hu
              obtain rfl := Option.some.inj hu
              rw [addr_add]
              exact HX.out.cell j hj
            case c3 => unfold maxLen; omega
            case c4 => omega
            intro v' ob' W3 hrow3 hg3 hob3
            have hob' : w.heap.size ≤ ob' := by
              rcases hob3 with h | h
              · exact HOB.out _ h
              · have := HB.out.size; omega
            have hB3 : Below w.heap.size w W3 := HB.out.grown hg3 HB.out.size (fun g e => HOB.out g e)
            have HX3 := Lib.hid (HPK.out W3 hB3)
            have HT3 := Lib.hid (HT.out.below hB3)
            have HP3 := (HP.out.below hB3).cell k hlt
            rw [HPC0.out] at HP3
            simp only at HP3
            have HB3 := Lib.hid hB3
            have HR3 := Lib.hid hrow3
            have HOB3 := Lib.hid hob'
            clear hrow3 hg3 hob3 hob' hB3
            go_wp2_with fail
            go_at_call 10
            refine (C1.out _ HT3.out HX3.out).mono ?_
            rintro e w' ⟨rfl, rfl⟩
            go_wp2_with fail
            go_roundw
            case rel => exact ⟨k + 1, by omega, by go_num, n + m, putB Y n X, some ob', by omega, (fun j => by unfold putB; split; exact HY.out j; exact HXb.out _), by rw [HM2.out], by rw [rowV_put]; exact HR3.out, (fun g e => by obtain rfl := Option.some.inj e; exact HOB3.out), HB3.out⟩
            case measure => first | (simp [intOf]; done) | (simp [intOf]; omega)
    · obtain rfl : k = len := by omega
      have C1 : Hid (Calls Tryd.prog 8 #[.slice av n cv] wr fun e w' => e = .returned (.int .u32 (moreN 0 Y n : Nat)) ∧ wr = w') := Lib.hid (sum_any av n cv _ 0 Y wr HTr.out hYin)
      obtain ⟨M, hM⟩ : ∃ M, M = moreN 0 Y n := ⟨_, rfl⟩
      rw [← hM] at C1 ⊢
      have HB := Lib.hid hB
      clear hM hB hr hob hY hYin
      go_wp2_with (first
        | (go_at_call 8; refine C1.out.mono ?_; rintro e w' ⟨rfl, rfl⟩)
        | (go_at_call 7; refine (mwakes_any _ HTr.out).mono ?_; rintro e WK ⟨rfl, hWK⟩))
      go_ret
      exact ⟨rfl, HB.out.trans (hWK.mono HB.out.size)⟩
theorem sumsPieces_dt (a : Option Addr) (len cap : Nat) (xs : List Dt) (w : World) (h : laidMetH Tryd.prog [("weir/sums.steps", Rows.laid_weir_sums_steps)] w) (hb : SliceFits Tryd.prog w 22 a len cap xs) :
    Calls Tryd.prog 5 #[.slice a len cap] w fun e w' => e = .returned (.bool true) ∧ Below w.heap.size w w' := by
  obtain ⟨b, o, P, hP⟩ := pc_cells w hb
  exact sumsPieces_any a len cap b o P w (tab_of h) hP
end Go.Proofs.YtmgfdbjcgcmbkaaDoor
