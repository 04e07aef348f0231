/-
  The document's writers.
-/
import Derived.Test.YtiednacpmlilbaaDoorWk5
namespace Go.Proofs.YtiednacpmlilbaaDoor
open Go.RowKit
set_option linter.unusedSimpArgs false
set_option linter.unusedVariables false

/-- bytes grow; all else stays -/
def GrB (M : Nat) (W W' : World) : Prop := Below M W W' ∧ TyL [5] W W'
theorem GrB.refl (M : Nat) (W : World) : GrB M W W := ⟨Below.refl _ _, TyL.refl _ _⟩
theorem GrB.trans {M : Nat} {A B C : World} (h : GrB M A B) (k : GrB M B C) : GrB M A C := ⟨h.1.trans k.1, h.2.trans k.2⟩
theorem GrB.of_below {M : Nat} {A B : World} (h : Below A.heap.size A B) (hM : M ≤ A.heap.size) : GrB M A B := ⟨h.mono hM, TyL.of_below h⟩
theorem b_app3 {W : World} {M : Nat} {ty : TypeId} {v v2 : Value} {ob : Option Nat} {L L2 : List Nat} (h : BO M W v ob L) (h2 : BV W v2 L2) (hM : M ≤ W.heap.size) (hn : L.length + L2.length ≤ 1000000000) :
    ∃ a' n' c' ob' w', (Builtin.append_ #[23, 23] ty #[v, v2]).run Tryd.prog W = .ok (.slice a' n' c') w' ∧ BO M w' (.slice a' n' c') ob' (L ++ L2) ∧ GrB M W w' := by
  obtain ⟨v', ob', w', h1, h3, h4, h5⟩ := b_app2 (ty := ty) h h2 hM hn
  obtain ⟨a', n', c', rfl, -⟩ := h3.v.sh
  refine ⟨a', n', c', ob', w', h1, h3, h4, TyL.of_fr h5 fun q hq => ?_⟩
  cases ob with
  | none => simp at hq
  | some g =>
    obtain rfl : q = g := by simpa using hq
    obtain ⟨cs, k⟩ := row_blk8 h rfl
    exact ⟨cs, _, k, by simp⟩
theorem BO.grb {W W' : World} {M : Nat} {v : Value} {ob : Option Nat} {L : List Nat} (h : BO M W v ob L) (hB : Below W.heap.size W W') : BO M W' v ob L := h.step hB
theorem blk_grb {M : Nat} {W W' : World} {q : Nat} {cs : Array Value} {ty : TypeId} (h : Blk W q cs ty) (hg : GrB M W W') (ht : ty ≠ 5) : Blk W' q cs ty := hg.2 q cs ty h (by simpa using ht)
def WrC (f : FuncId) (x : Array Value) (M : Nat) (W : World) (v : Value) (s t : List Nat) : Prop := Calls Tryd.prog f (#[v] ++ x) W fun e W' => ∃ a' n' c' ob', e = .returned (.slice a' n' c') ∧ BO M W' (.slice a' n' c') ob' (s ++ t) ∧ GrB M W W'
set_option maxRecDepth 100000 in
set_option maxHeartbeats 8000000 in
theorem rnumber_any (M : Nat) (W : World) (v : Value) (ob : Option Nat) (s : List Nat) (n : Int) (h : BO M W v ob s) (hM : M ≤ W.heap.size) (hs : s.length + 8 ≤ 1000000000) :
    Calls Tryd.prog 57 #[v, .int .i64 n] W fun e W' => ∃ a' n' c' ob', e = .returned (.slice a' n' c') ∧ BO M W' (.slice a' n' c') ob' (s ++ e8 n) ∧ GrB M W W' := by
  have HO := Lib.hid h
  have HM := Lib.hid hM
  have HS := Lib.hid hs
  have cv : IntKind.u64.wrap n = ((u64 n : Nat) : Int) := wrap_u64 n
  obtain ⟨m, hm⟩ : ∃ m, m = u64 n := ⟨_, rfl⟩
  rw [← hm] at cv
  have HMM := Lib.hid hm
  clear h hM hs hm
  go_enter Tryd.func57, Tryd.ntmps57
  go_upto_region 2 with fail
  go_loopw [0, 5] (fun v k wr => ∃ (i : Nat) (ob : Option Nat), i ≤ 8 ∧ k = .int .i64 (7 - (i : Int)) ∧ BO M wr v ob (s ++ (e8 n).take i) ∧ GrB M W wr) (fun _ k _ => (intOf k + 1).toNat)
  case atStart => exact ⟨0, ob, by omega, rfl, by rw [List.take_zero, List.append_nil]; exact HO.out, GrB.refl _ _⟩
  case round =>
    obtain ⟨i, ob2, hi, rfl, hbo, hg⟩ := hrel
    obtain ⟨va, vn, vc, rfl, -, hv1, hv2⟩ := hbo.v.sh
    obtain ⟨k, hk⟩ : ∃ k : Int, k = 7 - (i : Int) := ⟨_, rfl⟩
    rw [← hk]
    by_cases hlt : i < 8
    · obtain ⟨j, hj⟩ : ∃ j : Int, j = 56 - 8 * (i : Int) := ⟨_, rfl⟩
      have j0 : 0 ≤ j := by omega
      have j1 : j ≤ 56 := by omega
      have w8 : IntKind.i64.wrap (8 * k) = j := by rw [IntWalk.i64_in _ (by omega)]; omega
      have w9 : IntKind.u64.wrap j = j := by rw [wrap_u64]; unfold u64; rw [Int.emod_eq_of_lt j0 (by omega)]; exact Int.toNat_of_nonneg j0
      obtain ⟨x, hx⟩ : ∃ x, x = gB (e8 n) i := ⟨_, rfl⟩
      have cx : IntKind.u8.wrap ((m : Int) / 2 ^ j.toNat) = ((x : Nat) : Int) := by rw [hx, HMM.out]; exact e8_sh n hlt hj
      have sh : Op.shift .shr .u64 (m : Int) .u64 j = pure (.int .u64 ((m : Int) / 2 ^ j.toNat)) := shift_shr _ _ _ _ j0 (by simp [IntKind.bits]; omega)
      have kc : (0 ≤ k) = True := eq_true (by omega)
      have kw : IntKind.i64.wrap (k - 1) = k - 1 := IntWalk.i64_in _ (by omega)
      have hx2 : x < 256 := by rw [hx]; exact e8_bd n _ (List.mem_of_getElem? (gB_lt (by rw [e8_len]; exact hlt)))
      have htk : (e8 n).take (i + 1) = (e8 n).take i ++ [x] := by rw [hx]; exact e8_take n hlt
      have hB1 : Below wr.heap.size wr (wr.alloc (.cells #[.int .u8 (x : Nat)] 5)) := alloc_b _ _
      obtain ⟨a', n', c', ob3, W2, hr, ho, hg2⟩ := b_app3 (ty := 23) (hbo.step hB1) (bv_one (blk_new _ _ _) hx2) (Nat.le_trans HM.out (Nat.le_trans hg.1.size hB1.size)) (by have := HS.out; rw [List.length_append, List.length_take, e8_len]; simp; omega)
      have HRUN := Lib.hid hr
      have HO2 := Lib.hid ho
      have HG2 := Lib.hid (hg.trans ((GrB.of_below hB1 (Nat.le_trans HM.out hg.1.size)).trans hg2))
      have HK := Lib.hid hk
      have HTK := Lib.hid htk
      clear hr ho hg2 hg hbo hB1 hx hx2 htk hk hj
      go_wp2_with (at_builtin; refine Lib.wpList_append_run _ rfl (.tmp 10) (.tmp 18) 23 23 rfl _ _ rfl rfl _ _ HRUN.out ?_)
      try go_wp2_with fail
      go_roundw
      case rel => exact ⟨i + 1, ob3, by omega, by rw [HK.out]; congr 1; omega, by rw [HTK.out, ← List.append_assoc]; exact HO2.out, HG2.out⟩
      case measure =>
        have := HK.out
        simp [intOf]
        omega
    · obtain rfl : i = 8 := by omega
      have kc : (0 ≤ k) = False := eq_false (by omega)
      have HE := Lib.hid (And.intro hbo hg)
      clear hbo hg hk
      go_wp2_with fail
      go_ret
      exact ⟨_, _, _, ob2, rfl, HE.out.1, HE.out.2⟩
set_option maxRecDepth 100000 in
set_option maxHeartbeats 8000000 in
theorem rbytes_any5 (M : Nat) (W : World) (v : Value) (ob : Option Nat) (s : List Nat) (x : Value) (l : List Nat) (h : BO M W v ob s) (hM : M ≤ W.heap.size) (hx : BL M W x l) (hs : s.length + 8 + l.length ≤ 1000000000) :
    Calls Tryd.prog 59 #[v, x] W fun e W' => ∃ a' n' c' ob', e = .returned (.slice a' n' c') ∧ BO M W' (.slice a' n' c') ob' (s ++ (e8 (l.length : Nat) ++ l)) ∧ GrB M W W' := by
  obtain ⟨xa, xb, xo, xc, rfl, hx1, hx2⟩ := hx
  have HX := Lib.hid (show BL M W (.slice xa l.length xc) l from ⟨xa, xb, xo, xc, rfl, hx1, hx2⟩)
  have HC := Lib.hid (rnumber_any M W v ob s (l.length : Nat) h hM (by omega))
  obtain ⟨n, hn⟩ : ∃ n, n = l.length := ⟨_, rfl⟩
  rw [← hn] at HC HX ⊢
  have HS := Lib.hid hs
  have HM := Lib.hid hM
  have HN := Lib.hid hn
  clear h hM hs hx1 hx2 hn
  go_enter Tryd.func59, Tryd.ntmps59
  go_wp2_with (first | (refine Calls.mono HC.out ?_; rintro e W1 ⟨a1, n1, c1, ob1, rfl, ho1, hg1⟩; obtain ⟨a2, n2, c2, ob2, W2, hr, ho2, hg2⟩ := b_app3 (ty := 23) ho1 (show BV W1 (.slice xa n xc) l from by obtain ⟨a, b, o, c, e, k, _⟩ := HX.out.fr hg1.1.block hg1.1.size; exact ⟨a, b, o, c, e, k⟩) (Nat.le_trans HM.out hg1.1.size) (by have := HS.out; rw [List.length_append, e8_len]; omega); have HRUN := Lib.hid hr; have HEND := Lib.hid (And.intro ho2 (hg1.trans hg2)); clear hr ho2 hg2 ho1 hg1 HC) | (at_builtin; refine Lib.wpList_append_run _ rfl (.tmp 8) (.tmp 9) 23 23 rfl _ _ rfl rfl _ _ HRUN.out ?_))
  try go_wp2_with fail
  go_ret
  exact ⟨_, _, _, ob2, rfl, by rw [← List.append_assoc]; exact HEND.out.1, HEND.out.2⟩
end Go.Proofs.YtiednacpmlilbaaDoor
