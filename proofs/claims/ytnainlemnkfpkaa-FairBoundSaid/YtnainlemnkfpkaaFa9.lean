/-
  A scheduler made: the program.
-/
import Derived.Test.YtnainlemnkfpkaaFa8
import Derived.Maps.AppendAt
namespace Go.Proofs.Ytnainlemnkfpkaa
open Go.RowKit
set_option linter.unusedSimpArgs false
set_option linter.unusedVariables false

def flL (wt : Nat → Int) (n : Nat) : List Value := (List.range n).flatMap fun k => [.int .u8 (wt k), .int .u16 0, .bool false]
theorem flL_succ (wt : Nat → Int) (n : Nat) : flL wt (n + 1) = flL wt n ++ [.int .u8 (wt n), .int .u16 0, .bool false] := by simp [flL, List.range_succ, List.flatMap_append]
theorem flL_len (wt : Nat → Int) : ∀ n : Nat, (flL wt n).length = n * 3
  | 0 => by simp [flL]
  | n + 1 => by rw [flL_succ, List.length_append, flL_len wt n]; simp; omega
theorem flL_at (wt : Nat → Int) : ∀ (n k j : Nat), k < n → j < 3 → (flL wt n)[k * 3 + j]? = ([.int .u8 (wt k), .int .u16 0, .bool false] : List Value)[j]?
  | 0, _, _, h, _ => by omega
  | n + 1, k, j, h, hj => by
    have hl := flL_len wt n
    rw [flL_succ]
    by_cases hk : k < n
    · rw [List.getElem?_append_left (by omega)]
      exact flL_at wt n k j hk hj
    · obtain rfl : k = n := by omega
      rw [List.getElem?_append_right (by omega), hl]
      congr 1
      omega
theorem flInfo : (Try.prog.info? 63).map (fun i => (i.zero, i.size, i.bytes)) = some (some (.agg #[.int .u8 0, .int .u16 0, .bool false]), 3, 6) := by kernel_rfl
def sumW (wt : Nat → Int) : Nat → Int
  | 0 => 0
  | k + 1 => sumW wt k + wt k
theorem sumW_bd {wt : Nat → Int} : ∀ (n : Nat), (∀ k, k < n → 1 ≤ wt k ∧ wt k ≤ 16) → (n : Int) ≤ sumW wt n ∧ sumW wt n ≤ 16 * n ∧ ∀ k, k < n → wt k ≤ sumW wt n
  | 0, _ => ⟨by simp [sumW], by simp [sumW], fun k h => by omega⟩
  | n + 1, h => by
    obtain ⟨h1, h2, h3⟩ := sumW_bd n (fun k hk => h k (by omega))
    have h4 := h n (by omega)
    refine ⟨by simp only [sumW]; omega, by simp only [sumW]; omega, fun k hk => ?_⟩
    simp only [sumW]
    by_cases hkn : k = n
    · subst hkn; omega
    · have := h3 k (by omega); omega
def s0F : FS := ⟨0, zeroT, fun _ => 0, fun _ => false⟩
theorem inv0 {n : Nat} (h8 : n ≤ 8) : Inv n s0F := ⟨h8, by simp [s0F], fun k _ => ⟨by simp [s0F, zeroT], by simp [s0F, zeroT], by simp [s0F, zeroT], by simp [s0F, zeroT], by simp [s0F], fun _ => by simp [s0F, zeroT]⟩⟩
def okWt (L : List Int) : Prop := 1 ≤ L.length ∧ L.length ≤ 8 ∧ ∀ k, k < L.length → 1 ≤ gI L k ∧ gI L k ≤ 16
theorem okWt.ok {L : List Int} (h : okWt L) : WtOk L.length (gI L) (sumW (gI L) L.length) := by
  obtain ⟨h1, h2, h3⟩ := sumW_bd L.length h.2.2
  exact ⟨fun k hk => ⟨(h.2.2 k hk).1, (h.2.2 k hk).2, h3 k hk⟩, by have := h.2.1; omega⟩
/-- while a scheduler is made -/
structure MkAt (W0 W : World) (g ft n c2 : Nat) (v : Value) (ob : Option Nat) (wt : Nat → Int) (k : Nat) : Prop where
  blk : Blk W g #[v, .int .i64 (sumW wt k), .int .i64 0, .slice (some ⟨ft, 0, none⟩) n c2] 60
  row : Row W v ob 63 3 k (flL wt k)
  tg : Row W (.slice (some ⟨ft, 0, none⟩) n c2) (some ft) 80 2 n (tagsL zeroT n)
  b : Below W0.heap.size W0 W
  ge : W0.heap.size ≤ g ∧ W0.heap.size ≤ ft ∧ ∀ q, ob = some q → W0.heap.size ≤ q
theorem MkAt.done {W0 W : World} {g ft n c2 : Nat} {v : Value} {ob : Option Nat} {wt : Nat → Int} (h : MkAt W0 W g ft n c2 v ob wt n) (h0 : 0 < n) : ∃ fo c1, v = .slice (some ⟨fo, 0, none⟩) n c1 ∧ FrAt W W0.heap.size g fo ft n c1 c2 wt (sumW wt n) s0F := by
  obtain ⟨a, c1, rfl, h1, h2, h3⟩ := h.row.shape
  rcases h.row.cases with ⟨_, _, e, _⟩ | ⟨fo, cap, cur, rfl, e2, h4, h5, h6, h7, h8⟩
  · omega
  · injection e2 with e3 e4 e5
    subst e3 e5
    refine ⟨fo, _, rfl, h.blk, ⟨cur, h4, fun k hk => ?_⟩, ⟨h1, h2⟩, h.tg, h.ge.1, h.ge.2.2 fo rfl, h.ge.2.1⟩
    have hc : ∀ j, j < 3 → cur[k * 3 + j]? = ([.int .u8 (wt k), .int .u16 0, .bool false] : List Value)[j]? := fun j hj => by
      obtain ⟨g', eg, hc, _⟩ := h.row.cell (k * 3 + j) (by omega)
      obtain rfl := Option.some.inj eg
      rw [cell_at h4, flL_at wt n k j hk hj] at hc
      exact hc
    exact ⟨hc 0 (by omega), hc 1 (by omega), hc 2 (by omega)⟩
set_option maxRecDepth 100000 in
set_option maxHeartbeats 8000000 in
theorem fnew_any (va : Value) (L : List Int) (w : World) (hv : InV w va L) (h1 : 1 ≤ L.length) (h8 : L.length ≤ 8) :
    Calls Try.prog 8 #[va] w fun e w' => (okWt L ∧ ∃ g fo ft c1 c2, e = .returned (.tuple #[.pointer (some ⟨g, 0, none⟩), .int .i64 0]) ∧ FrAt w' w.heap.size g fo ft L.length c1 c2 (gI L) (sumW (gI L) L.length) s0F ∧ Below w.heap.size w w') ∨ (¬ okWt L ∧ e = .returned (.tuple #[.pointer none, .int .i64 2]) ∧ Below w.heap.size w w') := by
  obtain ⟨xa, n, xc, rfl, HN, m1, m2⟩ := hv.sh
  have hn : n = L.length := HN.out
  rw [← hn] at h1 h8 ⊢
  have HV := Lib.hid hv
  have NW := Lib.hid (new_good n w h1 h8)
  have HN1 := Lib.hid h1
  have HN8 := Lib.hid h8
  have HLN := Lib.hid hn
  obtain ⟨wt, hwt⟩ : ∃ f, f = gI L := ⟨_, rfl⟩
  have HWT := Lib.hid hwt
  rw [← hwt]
  have HP : Hid (∀ (P : Prop), (P ↔ okWt L) → P = okWt L) := Lib.hid (fun P h => propext h)
  obtain ⟨OK, hOK⟩ : ∃ P, P = okWt L := ⟨_, rfl⟩
  have HOK : Hid (OK ↔ ∀ k, k < n → 1 ≤ wt k ∧ wt k ≤ 16) := Lib.hid (by rw [hOK, hwt, hn]; unfold okWt; rw [← hn]; exact ⟨fun h => h.2.2, fun h => ⟨h1, h8, h⟩⟩)
  rw [← hOK]
  clear hv hn hwt hOK h1 h8 HP
  go_enter Try.func8, Try.ntmps8
  go_wp2_with fail
  go_at_call 20
  go_fit (NW.out)
  rintro e W1 ⟨v, rfl, hvo⟩
  obtain ⟨ft, c2, rfl, hr1, hg1, hB1⟩ := vout_own hvo (by have := HN1.out; omega)
  obtain ⟨TB, hTB⟩ : ∃ N, N = W1.heap.size := ⟨_, rfl⟩
  obtain ⟨W2, hW2⟩ : ∃ W, W = W1.alloc (.cells #[.int .i64 0, .slice (some ⟨ft, 0, none⟩) n c2] 39) := ⟨_, rfl⟩
  have hB2 : Below W1.heap.size W1 W2 := by rw [hW2]; exact alloc_b _ _
  have hk2 : Blk W2 TB #[.int .i64 0, .slice (some ⟨ft, 0, none⟩) n c2] 39 := by rw [hW2, hTB]; exact blk_new _ _ _
  have e0 : W2.cell? ⟨TB, 0, none⟩ = some (.int .i64 0) := cell_at hk2 0
  have e1 : W2.cell? ⟨TB, 1, none⟩ = some (.slice (some ⟨ft, 0, none⟩) n c2) := cell_at hk2 1
  have HR2 := Lib.hid (hr1.congr (w' := W2) fun q e => by obtain rfl := Option.some.inj e; exact hB2.block _ hr1.lt)
  have HB2 := Lib.hid (hB1.trans (hB2.mono hB1.size))
  have HG2 := Lib.hid hg1
  clear hvo hr1 hg1 hB1 hB2 hk2 NW
  go_upto_region 2 with fail
  rw [← hTB, ← hW2]
  clear hTB hW2
  obtain ⟨g, hg⟩ : ∃ N, N = W2.heap.size := ⟨_, rfl⟩
  obtain ⟨W3, hW3⟩ : ∃ W, W = W2.alloc (.cells #[.slice none 0 0, .int .i64 0, .int .i64 0, .slice (some ⟨ft, 0, none⟩) n c2] 60) := ⟨_, rfl⟩
  have hB3 : Below W2.heap.size W2 W3 := by rw [hW3]; exact alloc_b _ _
  have HMK := Lib.hid (show MkAt w W3 g ft n c2 (.slice none 0 0) none wt 0 from ⟨by rw [hW3, hg]; exact blk_new _ _ _, Row.nil _ _ _, HR2.out.congr fun q e => by obtain rfl := Option.some.inj e; exact hB3.block _ HR2.out.lt, HB2.out.trans (hB3.mono HB2.out.size), by rw [hg]; exact HB2.out.size, HG2.out, fun q e => by cases e⟩)
  clear hB3 HR2 HB2 HG2
  go_upto_region 5 with fail
  rw [← hg, ← hW3]
  clear hg hW3 e0 e1
  obtain ⟨i0, hi, hz0, hz1, hz2⟩ := info_parts flInfo
  have HI := Lib.hid hi
  have HZ0 := Lib.hid hz0
  have HZ1 := Lib.hid hz1
  have HZ2 := Lib.hid hz2
  clear hi hz0 hz1 hz2
  go_wp2_with fail
  go_loopw [8, 23] (fun _ i wr => ∃ (k : Nat) (v : Value) (ob : Option Nat), k ≤ n ∧ i = .int .i64 k ∧ (∀ j, j < k → 1 ≤ wt j ∧ wt j ≤ 16) ∧ MkAt w wr g ft n c2 v ob wt k) (fun _ i _ => n - (intOf i).toNat)
  case atStart => exact ⟨0, _, none, Nat.zero_le _, rfl, (fun j h => by omega), HMK.out⟩
  case round =>
    clear HMK
    obtain ⟨k, v, ob, hk, rfl, hok, hmk⟩ := hrel
    have HMK := Lib.hid hmk
    have HO := Lib.hid hok
    by_cases hlt : k < n
    rotate_left
    · obtain rfl : k = n := by omega
      obtain ⟨fo, c1, rfl, hfr⟩ := hmk.done (by have := HN1.out; omega)
      have HFR := Lib.hid hfr
      clear hmk hok hfr
      go_wp2_with fail
      refine bodyPost_ret (v := .tuple #[.pointer (some ⟨g, 0, none⟩), .int .i64 0]) (by simp [results, Try.results8, go_sem]) rfl (.inl ⟨HOK.out.2 HO.out, g, fo, ft, c1, c2, rfl, HFR.out, HMK.out.b⟩)
    obtain ⟨gx, ox, y, ea, l1, hy, c0⟩ := (HV.out.below hmk.b).at k hlt
    subst ea
    replace c0 := c0.1
    have hgi : wt k = y := by rw [HWT.out]; unfold gI; rw [hy]; rfl
    have HGI := Lib.hid hgi
    have ww5 : IntKind.i64.wrap ((k : Int) + 1) = (k : Int) + 1 := IntWalk.i64_in _ (by omega)
    have b9 : ((k : Int) < (n : Int)) = True := eq_true (by omega)
    have bk1 : (k < n) = True := eq_true hlt
    have HLT := Lib.hid hlt
    clear hy hgi hok hlt
    by_cases hbad : y < 1 ∨ 16 < y
    · have HNO : Hid (¬ OK) := Lib.hid (fun h => by have := HOK.out.1 h k HLT.out; rw [HGI.out] at this; omega)
      have HBB := Lib.hid hmk.b
      clear hmk
      rcases hbad with hb | hb
      · have d1 : decide (y < 1) = true := decide_eq_true hb
        clear hb
        go_wp2_with fail
        try rw [Exit.noGoto_ret]
        exact bodyPost_ret (v := .tuple #[.pointer none, .int .i64 2]) (by simp [results, Try.results8, go_sem]) rfl (.inr ⟨HNO.out, rfl, HBB.out⟩)
      · have d1 : decide (y < 1) = false := decide_eq_false (by omega)
        have d2 : decide (16 < y) = true := decide_eq_true hb
        clear hb
        go_wp2_with fail
        try rw [Exit.noGoto_ret]
        exact bodyPost_ret (v := .tuple #[.pointer none, .int .i64 2]) (by simp [results, Try.results8, go_sem]) rfl (.inr ⟨HNO.out, rfl, HBB.out⟩)
    have hyb : 1 ≤ y ∧ y ≤ 16 := by omega
    have HYB := Lib.hid hyb
    have d1 : decide (y < 1) = false := decide_eq_false (by omega)
    have d2 : decide (16 < y) = false := decide_eq_false (by omega)
    have wy : IntKind.u8.wrap y = y := IntWalk.u8_in _ (by omega)
    have hsb := sumW_bd k HO.out
    obtain ⟨S, hS⟩ : ∃ S, S = sumW wt k := ⟨_, rfl⟩
    rw [← hS] at hsb
    have ws : IntKind.i64.wrap (S + y) = S + y := IntWalk.i64_in _ (by have := HN8.out; have := HLT.out; omega)
    have HSS : Hid (sumW wt (k + 1) = S + y) := Lib.hid (by rw [hS, ← HGI.out]; rfl)
    obtain ⟨av, cv, rfl, q1, q2, q3⟩ := hmk.row.shape
    have hbk := hmk.blk
    rw [← hS] at hbk
    have g0 : wr.cell? ⟨g, 0, none⟩ = some (.slice av k cv) := cell_at hbk 0
    have hBx : Below wr.heap.size wr (wr.alloc (.cells #[.int .u8 y, .int .u16 0, .bool false] 63)) := alloc_b _ _
    have HKS := Lib.hid (hbk.step hBx)
    have HROW := Lib.hid (hmk.row.congr (w' := wr.alloc (.cells #[.int .u8 y, .int .u16 0, .bool false] 63)) fun q e => by subst e; exact hBx.block q hmk.row.lt)
    have hNB : ∀ q, ob = some q → g ≠ q := fun q e => by have hr := hmk.row; subst e; exact row_blk_ne hr hbk (by decide)
    have hNT : ∀ q, ob = some q → ft ≠ q := fun q e he => by
      have hr := hmk.row
      subst e
      obtain ⟨ct, hct⟩ := blk_row hmk.tg
      exact row_blk_ne hr hct (by decide) he
    have HNB := Lib.hid hNB
    have HNT := Lib.hid hNT
    have HBX := Lib.hid (hmk.b.trans (hBx.mono hmk.b.size))
    have HTG := Lib.hid (hmk.tg.congr (w' := wr.alloc (.cells #[.int .u8 y, .int .u16 0, .bool false] 63)) fun q e => by obtain rfl := Option.some.inj e; exact hBx.block _ hmk.tg.lt)
    have HSZ : Hid (w.heap.size ≤ wr.heap.size) := Lib.hid hmk.b.size
    clear hmk hS hsb hbk hNB hNT hBx hyb hbad q3
    go_wp2_with (at_builtin; refine wpList_append_row _ rfl (.tmp 37) (.tmp 41) 58 rfl 63 i0 _ 3 6 Try.underlying58 HI.out HZ0.out HZ1.out HZ2.out rfl (by decide) _ ob k (flL wt k) rfl HROW.out ⟨wr.heap.size, 0, none⟩ 1 1 [.int .u8 y, .int .u16 0, .bool false] rfl (by decide) rfl ?c1 ?c2 ?c3 ?c4 ?_)
    case c1 =>
      intro q u hu
      have hk9 := blk_new wr #[.int .u8 y, .int .u16 0, .bool false] 63
      rw [addr_add, cell_at hk9, Nat.zero_add, List.getElem?_toArray]
      exact hu
    case c2 => intro u hu; exact (List.all_eq_true (p := fun u : Value => u.oneCell')).1 rfl u hu
    case c3 => have := HN8.out; have := HLT.out; unfold maxLen; omega
    case c4 => have := HN8.out; have := HLT.out; omega
    intro v' ob' W6 hrow4 hg4 hob4
    have hk6 : Blk W6 g #[.slice av k cv, .int .i64 S, .int .i64 0, .slice (some ⟨ft, 0, none⟩) n c2] 60 := (hg4.block g HKS.out.lt (fun e => HNB.out g e.symm rfl)).trans HKS.out
    have g0 : W6.cell? ⟨g, 0, none⟩ = some (.slice av k cv) := cell_at hk6 0
    have gz : ∀ j, W6.frozen? ⟨g, j, none⟩ = false := fun j => free_at hk6 j
    have gl : g < W6.heap.size := hk6.lt
    have htg6 := HTG.out.congr (w' := W6) fun q e => by obtain rfl := Option.some.inj e; exact hg4.block _ HTG.out.lt (fun e => HNT.out ft e.symm rfl)
    have hob6 : w.heap.size ≤ ob' := by
      rcases hob4 with h | h
      · exact HMK.out.ge.2.2 _ h
      · have := HSZ.out; first | omega | (simp at h; omega)
    have hB6 : Below w.heap.size w W6 := HBX.out.grown hg4 (by have := HSZ.out; first | omega | (simp; omega)) (fun q e => HMK.out.ge.2.2 q e)
    have hne6 : g ≠ ob' := row_blk_ne hrow4 hk6 (by decide)
    obtain ⟨av6, cv6, rfl, h61, h62, h63⟩ := hrow4.shape
    obtain ⟨W7, hW7⟩ : ∃ X, X = W6.setCell ⟨g, 0, none⟩ (.slice av6 (k + 1) cv6) := ⟨_, rfl⟩
    have hk7 : Blk W7 g #[.slice av6 (k + 1) cv6, .int .i64 S, .int .i64 0, .slice (some ⟨ft, 0, none⟩) n c2] 60 := by rw [hW7]; exact hk6.set 0 _
    have s1 : W7.cell? ⟨g, 1, none⟩ = some (.int .i64 S) := cell_at hk7 1
    have sz : ∀ j, W7.frozen? ⟨g, j, none⟩ = false := fun j => free_at hk7 j
    have sl : g < W7.heap.size := hk7.lt
    obtain ⟨W8, hW8⟩ : ∃ X, X = W7.setCell ⟨g, 1, none⟩ (.int .i64 (S + y)) := ⟨_, rfl⟩
    have hf8 : Fr [g] W6 W8 := by rw [hW8, hW7]; exact ((Fr.refl _ _).setCell _ (.inl (by simp)) _).setCell _ (.inl (by simp)) _
    have htn : ft ≠ g := by
      rintro rfl
      obtain ⟨ct, hct⟩ := blk_row htg6
      have := hct.symm.trans hk6
      injection this with e'
      injection e' with _ e2
      revert e2
      decide
    have HMK8 := Lib.hid (show MkAt w W8 g ft n c2 (.slice av6 (k + 1) cv6) (some ob') wt (k + 1) from ⟨by rw [HSS.out, hW8]; exact hk7.set 1 _, by
      rw [flL_succ, HGI.out]
      exact hrow4.congr fun q e => by obtain rfl := Option.some.inj e; exact hf8.block _ hrow4.lt (by simpa using fun e => hne6 e.symm), htg6.congr fun q e => by obtain rfl := Option.some.inj e; exact hf8.block _ htg6.lt (by simpa using htn), hB6.trans (hf8.below hB6.size (by simp; exact HMK.out.ge.1)), HMK.out.ge.1, HMK.out.ge.2.1, fun q e => by obtain rfl := Option.some.inj e; exact hob6⟩)
    clear hk6 htg6 hob6 hB6 hne6 hk7 hf8 htn h63 hrow4 hg4 hob4
    go_upto_region 11 with fail
    rw [← hW7]
    clear hW7 g0 gz gl
    go_upto_region 12 with fail
    rw [← hW8]
    clear hW8 s1 sz sl
    go_wp2_with fail
    go_roundw
    case rel => exact ⟨k + 1, _, some ob', by have := HLT.out; omega, by go_num, (fun j hj => by
      by_cases hjk : j = k
      · subst hjk; rw [HGI.out]; exact HYB.out
      · exact HO.out j (by omega)), HMK8.out⟩
    case measure => (have h8 := HLT.out; first | (simp [intOf]; done) | (simp [intOf]; omega))
end Go.Proofs.Ytnainlemnkfpkaa
