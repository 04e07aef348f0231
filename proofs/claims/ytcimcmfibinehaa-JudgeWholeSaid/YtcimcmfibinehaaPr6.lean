/-
  The law.
-/
import Derived.Test.YtcimcmfibinehaaPr5
import Derived.Test.YtcimcmfibinehaaJdd
namespace Go.Proofs.Ytcimcmfibinehaa
open Go.RowKit
set_option linter.unusedSimpArgs false
set_option linter.unusedVariables false

theorem w30_any (ia : Option Addr) (nI ic ib io : Nat) (HI : Nat → BsE) (fa : Option Addr) (nf fc fb fo : Nat) (FE : Nat → FlowE) (oa : Option Addr) (no oc ob oo : Nat) (S : Nat → SentE) (ba : Option Addr) (nB bc bb bo : Nat) (HB : Nat → BsE) (w : World)
    (hI : BsIn w ia nI ic ib io HI) (hF : FlowIn w fa nf fc fb fo FE) (hO : SentIn w oa no oc ob oo S) (hB : BsIn w ba nB bc bb bo HB) (l1 : nI ≤ 60) (l2 : nf ≤ 60) (l3 : no ≤ 60) (l4 : ∀ k, k < nI → (HI k).n ≤ 60000) (l5 : ∀ k, k < nB → (HB k).n ≤ 60000) :
    Calls Try.prog 5 #[.slice ia nI ic, .slice fa nf fc, .slice oa no oc, .slice ba nB bc] w (WhP w (WOk nI HI HB S FE nf no nB)) := by
  have HC := Lib.hid (rwhole_any ia nI ic ib io HI fa nf fc fb fo FE oa no oc ob oo S ba nB bc bb bo HB w hI hF hO hB l1 l2 l3 l4 l5)
  clear hI hF hO hB l1 l2 l3 l4 l5
  go_enter Try.func5, Try.ntmps5
  go_wp2_with fail
  go_at_call 11
  go_fit HC.out
  rintro e W2 ⟨⟨B, rfl, hB⟩, hBl⟩
  have HBB := Lib.hid hB
  have HBL := Lib.hid hBl
  clear hB hBl
  go_wp2_with fail
  try rw [Exit.noGoto_ret]
  go_ret
  exact ⟨⟨B, rfl, HBB.out⟩, HBL.out⟩
theorem b_of_f {B : Bool} {P : Prop} (h : B = true ↔ P) (hn : ¬ P) : B = false := by
  cases B
  · rfl
  · exact absurd (h.1 rfl) hn
theorem b_of_t {B : Bool} {P : Prop} (h : B = true ↔ P) (hp : P) : B = true := h.2 hp
def sumN (H : Nat → BsE) : Nat → Nat
  | 0 => 0
  | k + 1 => sumN H k + (H k).n
theorem sumN_le {H : Nat → BsE} {n : Nat} (h : ∀ k, k < n → (H k).n ≤ 140737488351232) : ∀ k, k ≤ n → sumN H k ≤ k * 140737488351232
  | 0, _ => by simp [sumN]
  | k + 1, hk => by
    have h1 := sumN_le h k (by omega)
    have h2 := h k (by omega)
    unfold sumN
    omega
theorem bs_cells2 (W : World) {a : Option Addr} {len cap : Nat} {xs : List Dt} (h : SliceFits Try.prog W 26 a len cap xs) : ∃ (b o : Nat) (H : Nat → BsE), BsIn W a len cap b o H ∧ ∀ k, k < len → (H k).n ≤ 140737488351232 := by
  have hc : Try.prog.cellsOf 26 = 1 := by kernel_rfl
  have hb : Try.prog.bytesOf 5 = 1 := by kernel_rfl
  obtain ⟨b, o, h1, h2⟩ := h.spot (by rw [hc]; omega)
  have hex : ∀ k, ∃ q : BsE, k < len → W.cell? ⟨b, o + k, none⟩ = some (.slice q.a q.n q.c) ∧ ByIn W q.a q.n q.c q.b q.o q.X ∧ q.n ≤ 140737488351232 := fun k => by
    by_cases hk : k < len
    · have hl := h.length
      have hx := List.getElem?_eq_getElem (l := xs) (i := k) (by omega)
      obtain ⟨a1, n1, c1, ys, e0, f0⟩ := (h.each k _ hx).1.slice_inv Try.underlying26
      obtain ⟨b1, o1, X1, hX⟩ := by_cells W f0
      have hs := f0.short
      rw [hb, Nat.mul_one] at hs
      have hcell := h2 k _ hx
      rw [e0, hc] at hcell
      exact ⟨⟨a1, n1, c1, b1, o1, X1⟩, fun _ => ⟨by have := hcell 0 _ rfl; rwa [Nat.mul_one] at this, hX, hs⟩⟩
    · exact ⟨⟨none, 0, 0, 0, 0, fun _ => 0⟩, fun h => absurd h hk⟩
  have hg := fun k => Classical.choose_spec (hex k)
  exact ⟨b, o, fun k => Classical.choose (hex k), ⟨h.le, h.max, h1, fun k hk => (hg k hk).1, fun k hk => (hg k hk).2.1⟩, fun k hk => (hg k hk).2.2⟩
theorem sumN_mono (H : Nat → BsE) (j : Nat) : ∀ k, j < k → (H j).n ≤ sumN H k
  | 0, h => by omega
  | k + 1, h => by
    unfold sumN
    by_cases hj : j = k
    · subst hj; omega
    · have := sumN_mono H j k (by omega)
      omega
set_option maxRecDepth 100000 in
set_option maxHeartbeats 40000000 in
theorem judgeWhole_walk (ia : Option Addr) (nI ic ib io : Nat) (HI : Nat → BsE) (fa : Option Addr) (nf fc fb fo : Nat) (FE : Nat → FlowE) (oa : Option Addr) (no oc ob oo : Nat) (S : Nat → SentE) (ba : Option Addr) (nB bc bb bo : Nat) (HB : Nat → BsE) (w : World)
    (hI : BsIn w ia nI ic ib io HI) (hF : FlowIn w fa nf fc fb fo FE) (hO : SentIn w oa no oc ob oo S) (hB : BsIn w ba nB bc bb bo HB) (m1 : ∀ k, k < nI → (HI k).n ≤ 140737488351232) (m2 : ∀ k, k < nB → (HB k).n ≤ 140737488351232) :
    Calls Try.prog 3 #[.slice ia nI ic, .slice fa nf fc, .slice oa no oc, .slice ba nB bc] w fun e w' => e = .returned (.bool true) ∧ Below w.heap.size w w' := by
  have HHI := Lib.hid hI
  have HHF := Lib.hid hF
  have HHO := Lib.hid hO
  have HHB := Lib.hid hB
  have WK := Lib.hid jwakes_any
  have HMI := Lib.hid m1
  have HMB := Lib.hid m2
  clear hI hF hO hB m1 m2
  by_cases b1 : 60 < nI
  · have d1 : decide ((60 : Int) < (nI : Int)) = true := by simp; omega
    clear b1
    go_enter Try.func3, Try.ntmps3
    go_wp2_with fail
    go_at_call 4
    go_fit (WK.out _)
    rintro e Wz ⟨rfl, hBz⟩
    have HBz := Lib.hid (hBz)
    clear hBz
    go_wp2_with fail
    try rw [Exit.noGoto_ret]
    go_ret
    exact ⟨rfl, HBz.out⟩
  have d1 : decide ((60 : Int) < (nI : Int)) = false := by simp; omega
  by_cases b2 : 60 < nf
  · have d2 : decide ((60 : Int) < (nf : Int)) = true := by simp; omega
    clear b1 b2
    go_enter Try.func3, Try.ntmps3
    go_wp2_with fail
    go_at_call 4
    go_fit (WK.out _)
    rintro e Wz ⟨rfl, hBz⟩
    have HBz := Lib.hid (hBz)
    clear hBz
    go_wp2_with fail
    try rw [Exit.noGoto_ret]
    go_ret
    exact ⟨rfl, HBz.out⟩
  have d2 : decide ((60 : Int) < (nf : Int)) = false := by simp; omega
  by_cases b3 : 60 < no
  · have d3 : decide ((60 : Int) < (no : Int)) = true := by simp; omega
    clear b1 b2 b3
    go_enter Try.func3, Try.ntmps3
    go_wp2_with fail
    go_at_call 4
    go_fit (WK.out _)
    rintro e Wz ⟨rfl, hBz⟩
    have HBz := Lib.hid (hBz)
    clear hBz
    go_wp2_with fail
    try rw [Exit.noGoto_ret]
    go_ret
    exact ⟨rfl, HBz.out⟩
  have d3 : decide ((60 : Int) < (no : Int)) = false := by simp; omega
  by_cases b4 : 60 < nB
  · have d4 : decide ((60 : Int) < (nB : Int)) = true := by simp; omega
    clear b1 b2 b3 b4
    go_enter Try.func3, Try.ntmps3
    go_wp2_with fail
    go_at_call 4
    go_fit (WK.out _)
    rintro e Wz ⟨rfl, hBz⟩
    have HBz := Lib.hid (hBz)
    clear hBz
    go_wp2_with fail
    try rw [Exit.noGoto_ret]
    go_ret
    exact ⟨rfl, HBz.out⟩
  have d4 : decide ((60 : Int) < (nB : Int)) = false := by simp; omega
  have HL := Lib.hid (show nI ≤ 60 ∧ nf ≤ 60 ∧ no ≤ 60 ∧ nB ≤ 60 from ⟨by omega, by omega, by omega, by omega⟩)
  clear b1 b2 b3 b4
  go_enter Try.func3, Try.ntmps3
  go_wp2_with fail
  have HBD : Hid (0 ≤ 9007199254740992) := Lib.hid (by omega)
  go_loopw [9, 10, 36] (fun vn _ vi wq => ∃ k : Nat, k ≤ nI ∧ vn = .int .i64 ((0 + sumN HI k : Nat) : Int) ∧ vi = .int .i64 k ∧ wq = w) (fun _ _ vi _ => nI - (intOf vi).toNat)
  case atStart => exact ⟨0, Nat.zero_le _, by first | rfl | (simp [sumN]; done), rfl, rfl⟩
  case round =>
  obtain ⟨k, hk, hvn, rfl, hwq⟩ := hrel
  subst hvn
  have hwq2 := hwq.symm
  clear hwq
  subst hwq2
  by_cases hlt : k < nI
  · obtain ⟨ea, hol⟩ := HHI.out.at_ (by omega)
    subst ea
    have HLT := Lib.hid hlt
    have cc := HHI.out.cell k hlt
    have hs1 := sumN_le (H := HI) HMI.out k hk
    have hs2 := HMI.out k hlt
    obtain ⟨Y, hY⟩ : ∃ y, y = HI k := ⟨_, rfl⟩
    obtain ⟨S0, hS0⟩ : ∃ s, s = 0 + sumN HI k := ⟨_, rfl⟩
    have hS1 : 0 + sumN HI (k + 1) = S0 + Y.n := by rw [hS0, hY]; show 0 + (sumN HI k + (HI k).n) = _; omega
    have hb9 : S0 + Y.n ≤ 9007199254740992 + 9007199254740992 := by rw [hS0, hY]; have := HL.out; have := HBD.out; omega
    rw [← hS0]
    rw [← hY] at cc
    have HS1 := Lib.hid hS1
    have b9 : ((k : Int) < (nI : Int)) = True := eq_true (by omega)
    have bk1 : (k < nI) = True := eq_true hlt
    have b0 : ((0 : Int) ≤ (k : Int)) = True := eq_true (by omega)
    have wk5 : IntKind.i64.wrap ((k : Int) + 1) = (k : Int) + 1 := IntWalk.i64_in _ (by have := HL.out; omega)
    have ws5 : IntKind.i64.wrap ((S0 : Int) + (Y.n : Int)) = (S0 : Int) + (Y.n : Int) := IntWalk.i64_in _ (by omega)
    clear hk hlt hol hs1 hs2 hY hS0 hS1 hb9
    go_wp2_with fail
    go_roundw
    case rel => exact ⟨k + 1, by have := HLT.out; omega, by rw [HS1.out]; go_num, by go_num, by first | rfl | trivial⟩
    case measure => (have h8 := HLT.out; first | (simp [intOf]; done) | (simp [intOf]; omega))
  obtain rfl : nI = k := by omega
  have b9 : ((nI : Int) < (nI : Int)) = False := eq_false (by omega)
  clear hlt hk
  go_wp2_with fail
  obtain ⟨TI, hTI⟩ : ∃ t, t = 0 + sumN HI nI := ⟨_, rfl⟩
  have hbd : TI ≤ 9007199254740992 := by rw [hTI]; have := sumN_le (H := HI) HMI.out nI (Nat.le_refl _); have := HL.out; omega
  clear HBD
  have HBD := Lib.hid hbd
  have HTI := Lib.hid hTI
  rw [← hTI]
  clear hTI hbd b9
  go_loopw [9, 11, 49] (fun vn _ vi wq => ∃ k : Nat, k ≤ nB ∧ vn = .int .i64 ((TI + sumN HB k : Nat) : Int) ∧ vi = .int .i64 k ∧ wq = w) (fun _ _ vi _ => nB - (intOf vi).toNat)
  case atStart => exact ⟨0, Nat.zero_le _, by first | rfl | (simp [sumN]; done), rfl, rfl⟩
  case round =>
  obtain ⟨k, hk, hvn, rfl, hwq⟩ := hrel
  subst hvn
  have hwq2 := hwq.symm
  clear hwq
  subst hwq2
  by_cases hlt : k < nB
  · obtain ⟨ea, hol⟩ := HHB.out.at_ (by omega)
    subst ea
    have HLT := Lib.hid hlt
    have cc := HHB.out.cell k hlt
    have hs1 := sumN_le (H := HB) HMB.out k hk
    have hs2 := HMB.out k hlt
    obtain ⟨Y, hY⟩ : ∃ y, y = HB k := ⟨_, rfl⟩
    obtain ⟨S0, hS0⟩ : ∃ s, s = TI + sumN HB k := ⟨_, rfl⟩
    have hS1 : TI + sumN HB (k + 1) = S0 + Y.n := by rw [hS0, hY]; show TI + (sumN HB k + (HB k).n) = _; omega
    have hb9 : S0 + Y.n ≤ 9007199254740992 + 9007199254740992 := by rw [hS0, hY]; have := HL.out; have := HBD.out; omega
    rw [← hS0]
    rw [← hY] at cc
    have HS1 := Lib.hid hS1
    have b9 : ((k : Int) < (nB : Int)) = True := eq_true (by omega)
    have bk1 : (k < nB) = True := eq_true hlt
    have b0 : ((0 : Int) ≤ (k : Int)) = True := eq_true (by omega)
    have wk5 : IntKind.i64.wrap ((k : Int) + 1) = (k : Int) + 1 := IntWalk.i64_in _ (by have := HL.out; omega)
    have ws5 : IntKind.i64.wrap ((S0 : Int) + (Y.n : Int)) = (S0 : Int) + (Y.n : Int) := IntWalk.i64_in _ (by omega)
    clear hk hlt hol hs1 hs2 hY hS0 hS1 hb9
    go_wp2_with fail
    go_roundw
    case rel => exact ⟨k + 1, by have := HLT.out; omega, by rw [HS1.out]; go_num, by go_num, by first | rfl | trivial⟩
    case measure => (have h8 := HLT.out; first | (simp [intOf]; done) | (simp [intOf]; omega))
  obtain rfl : nB = k := by omega
  have b9 : ((nB : Int) < (nB : Int)) = False := eq_false (by omega)
  clear hlt hk
  obtain ⟨TT, hTT⟩ : ∃ t, t = TI + sumN HB nB := ⟨_, rfl⟩
  rw [← hTT]
  have HTT := Lib.hid hTT
  clear hTT b9
  by_cases hbig : 60000 < TT
  · have d5 : decide ((60000 : Int) < (TT : Int)) = true := by simp; omega
    clear hbig
    go_wp2_with fail
    go_at_call 4
    go_fit (WK.out _)
    rintro e Wz ⟨rfl, hBz⟩
    have HBz := Lib.hid (hBz)
    clear hBz
    go_wp2_with fail
    try rw [Exit.noGoto_ret]
    go_ret
    exact ⟨rfl, HBz.out⟩
  have d5 : decide ((60000 : Int) < (TT : Int)) = false := by simp; omega
  have HLI : Hid (∀ k, k < nI → (HI k).n ≤ 60000) := Lib.hid (fun k hk => by have := sumN_mono HI k nI hk; have h1 := HTI.out; have h2 := HTT.out; omega)
  have HLB : Hid (∀ k, k < nB → (HB k).n ≤ 60000) := Lib.hid (fun k hk => by have := sumN_mono HB k nB hk; have h1 := HTI.out; have h2 := HTT.out; omega)
  clear hbig
  go_wp2_with fail
  go_at_call 5
  go_fit (w30_any ia nI ic ib io HI fa nf fc fb fo FE oa no oc ob oo S ba nB bc bb bo HB _ (HHI.out.below (Below.refl _ _)) (HHF.out.below (Below.refl _ _)) (HHO.out.below (Below.refl _ _)) (HHB.out.below (Below.refl _ _)) HL.out.1 HL.out.2.1 HL.out.2.2.1 HLI.out HLB.out)
  rintro e W1 ⟨⟨B, rfl, hP⟩, hBl⟩
  have HB1 := Lib.hid hBl
  clear hBl d1 d2 d3 d4 d5
  cases B
  · have HP : Hid (¬ WOk nI HI HB S FE nf no nB) := Lib.hid (fun h => by have := hP.2 h; cases this)
    clear hP
    go_wp2_with fail
    go_at_call 7
    go_fit (whole_any ia nI ic ib io HI fa nf fc fb fo FE oa no oc ob oo S ba nB bc bb bo HB _ (HHI.out.below HB1.out) (HHF.out.below HB1.out) (HHO.out.below HB1.out) (HHB.out.below HB1.out) HL.out.1 HL.out.2.1 HL.out.2.2.1 HLI.out HLB.out)
    rintro e W3 ⟨⟨B1, rfl, hB1⟩, hBl1⟩
    have e1 : B1 = false := b_of_f hB1 HP.out
    subst e1
    have HB3 := Lib.hid (HB1.out.trans (hBl1.mono HB1.out.size))
    clear hB1 hBl1
    go_wp2_with fail
    go_at_call 5
    go_fit (w30_any ia nI ic ib io HI fa nf fc fb fo FE oa no oc ob oo S ba nB bc bb bo HB _ (HHI.out.below HB3.out) (HHF.out.below HB3.out) (HHO.out.below HB3.out) (HHB.out.below HB3.out) HL.out.1 HL.out.2.1 HL.out.2.2.1 HLI.out HLB.out)
    rintro e W4 ⟨⟨B2, rfl, hB2⟩, hBl2⟩
    have e2 : B2 = false := b_of_f hB2 HP.out
    subst e2
    have HB4 := Lib.hid (HB3.out.trans (hBl2.mono HB3.out.size))
    clear hB2 hBl2
    go_wp2_with fail
    go_at_call 4
    go_fit (WK.out _)
    rintro e Wz ⟨rfl, hBz⟩
    have HBz := Lib.hid (HB4.out.trans (hBz.mono HB4.out.size))
    clear hBz
    go_wp2_with fail
    try rw [Exit.noGoto_ret]
    go_ret
    exact ⟨rfl, HBz.out⟩
  have HP := Lib.hid (hP.1 rfl)
  have hnb : no = nB := HP.out.1
  clear hP
  subst hnb
  go_wp2_with fail
  go_loopw [12, 13, 14, 70] (fun _ _ _ vi wr => ∃ k : Nat, k ≤ no ∧ vi = .int .i64 k ∧ Below w.heap.size w wr) (fun _ _ _ vi _ => no - (intOf vi).toNat)
  case atStart => exact ⟨0, Nat.zero_le _, rfl, HB1.out⟩
  case round =>
  obtain ⟨k, hk, rfl, hBk⟩ := hrel
  have HBK := Lib.hid hBk
  by_cases hlt : k < no
  rotate_left
  · obtain rfl : no = k := by omega
    have b9 : ((no : Int) < (no : Int)) = False := eq_false (by omega)
    clear hk hlt hBk
    go_wp2_with fail
    go_at_call 7
    go_fit (whole_any ia nI ic ib io HI fa nf fc fb fo FE oa no oc ob oo S ba no bc bb bo HB _ (HHI.out.below HBK.out) (HHF.out.below HBK.out) (HHO.out.below HBK.out) (HHB.out.below HBK.out) HL.out.1 HL.out.2.1 HL.out.2.2.1 HLI.out HLB.out)
    rintro e W3 ⟨⟨B1, rfl, hB1⟩, hBl1⟩
    have e1 : B1 = true := b_of_t hB1 HP.out
    subst e1
    have HB3 := Lib.hid (HBK.out.trans (hBl1.mono HBK.out.size))
    clear hB1 hBl1
    go_wp2_with fail
    go_at_call 5
    go_fit (w30_any ia nI ic ib io HI fa nf fc fb fo FE oa no oc ob oo S ba no bc bb bo HB _ (HHI.out.below HB3.out) (HHF.out.below HB3.out) (HHO.out.below HB3.out) (HHB.out.below HB3.out) HL.out.1 HL.out.2.1 HL.out.2.2.1 HLI.out HLB.out)
    rintro e W4 ⟨⟨B2, rfl, hB2⟩, hBl2⟩
    have e2 : B2 = true := b_of_t hB2 HP.out
    subst e2
    have HB4 := Lib.hid (HB3.out.trans (hBl2.mono HB3.out.size))
    clear hB2 hBl2
    go_wp2_with fail
    go_at_call 4
    go_fit (WK.out _)
    rintro e Wz ⟨rfl, hBz⟩
    have HBz := Lib.hid (HB4.out.trans (hBz.mono HB4.out.size))
    clear hBz
    go_wp2_with fail
    try rw [Exit.noGoto_ret]
    go_ret
    exact ⟨rfl, HBz.out⟩
  have HLT := Lib.hid hlt
  obtain ⟨ea, hbl⟩ := HHB.out.at_ (by omega)
  subst ea
  obtain ⟨eo, hol⟩ := HHO.out.at_ (by omega)
  subst eo
  have b9 : ((k : Int) < (no : Int)) = True := eq_true (by omega)
  have bk1 : (k < no) = True := eq_true hlt
  have b0 : ((0 : Int) ≤ (k : Int)) = True := eq_true (by omega)
  have wk5 : IntKind.i64.wrap ((k : Int) + 1) = (k : Int) + 1 := IntWalk.i64_in _ (by have := HL.out; omega)
  have hok := (HP.out.2 k hlt).1.ok
  have hten := (HP.out.2 k hlt).1.ten
  have cb := (HHB.out.below hBk).cell k hlt
  have HBY := Lib.hid ((HHB.out.below hBk).by_ k hlt)
  have hyn := HLB.out k hlt
  have HSC := Lib.hid (fun (W' : World) (hB' : Below w.heap.size w W') => (HHO.out.below hB').cell k HLT.out)
  obtain ⟨Y, hY⟩ : ∃ y, y = HB k := ⟨_, rfl⟩
  obtain ⟨TEN, hTEN⟩ : ∃ x, x = (S k).ten := ⟨_, rfl⟩
  rw [← hY] at cb HBY hyn hok hten
  rw [← hTEN] at hten HSC
  have HYN := Lib.hid hyn
  have HOK := Lib.hid hok
  have HTEN := Lib.hid hten
  clear hk hlt hBk hok hten hyn hY hTEN hbl hol
  go_wp2_with fail
  go_at_call 6
  go_fit (rparse_any _ _ _ _ _ _ _ HBY.out (by have := HYN.out; omega))
  rintro e W3 hp
  obtain ⟨hB3, t, c, a', n', c', E, rfl, hE⟩ := parse_out hp
  have hE2 : E = 0 ∧ t = TEN := by
    rcases hE with ⟨_, h, _⟩ | ⟨h1, _, h2, _, _⟩
    · rw [HOK.out] at h; cases h
    · exact ⟨h1, by rw [h2, HTEN.out]⟩
  obtain ⟨rfl, e2⟩ := hE2
  clear hE hp
  subst e2
  have HB3 := Lib.hid (HBK.out.trans (hB3.mono HBK.out.size))
  obtain ⟨G, hG⟩ : ∃ N, N = W3.heap.size := ⟨_, rfl⟩
  obtain ⟨W4, hW4⟩ : ∃ W, W = W3.alloc (.cells #[.int .i64 0, .int .i64 t, .int .i64 c, .slice a' n' c'] 29) := ⟨_, rfl⟩
  have hB4 : Below W3.heap.size W3 W4 := by rw [hW4]; exact alloc_b9 _ _
  have HG4 := Lib.hid (show Blk W4 G #[.int .i64 0, .int .i64 t, .int .i64 c, .slice a' n' c'] 29 by rw [hW4, hG]; exact blk_new _ _ _)
  have HB4 := Lib.hid (HB3.out.trans (hB4.mono HB3.out.size))
  clear hB3 hB4 cb
  go_upto_region 21 with fail
  rw [← hG, ← hW4]
  clear hG hW4
  have g1 : W4.cell? ⟨G, 1, none⟩ = some (.int .i64 t) := cell_at HG4.out 1
  obtain ⟨-, -, s2, -, -, -⟩ := HSC.out _ HB4.out
  have HBX := Lib.hid (HB4.out.trans ((dN9 W4 1).mono HB4.out.size))
  refine wp_region_held_drew (S := fun X => X.cell? ⟨G, 1, none⟩ = some (.int .i64 t) ∧ X.cell? ⟨ob, oo + k * 6 + 2, none⟩ = some (.int .i64 t)) (by kernel_rfl) ⟨g1, s2⟩ (fun hHeld => ?_)
  try simp only [Act.put, List.setIfInBounds_toArray, List.set_cons_zero, List.set_cons_succ]
  clear g1 s2
  ((refine wpAnyH_take (i := 0) (v := ?_) (by (simp only [List.getElem?_toArray, List.getElem?_cons_succ, List.getElem?_cons_zero]); rfl) (by kernel_rfl) (by kernel_rfl) (by kernel_rfl) (by exact fun _ _ _ h => h) (Or.inl ⟨by rfl, ?_⟩) (by assumption) ?_); rotate_left; focus (intro wS hSw; (try dsimp only at hSw); go_simp; first | done | with_reducible rfl); try simp only [Act.put, List.setIfInBounds_toArray, List.set_cons_zero, List.set_cons_succ])
  ((refine wpAnyH_take (i := 1) (v := ?_) (by (simp only [List.getElem?_toArray, List.getElem?_cons_succ, List.getElem?_cons_zero]); rfl) (by kernel_rfl) (by kernel_rfl) (by kernel_rfl) (by exact fun _ _ _ h => h) (Or.inl ⟨by rfl, ?_⟩) (by assumption) ?_); rotate_left; focus (intro wS hSw; (try dsimp only at hSw); go_simp; first | done | with_reducible rfl); try simp only [Act.put, List.setIfInBounds_toArray, List.set_cons_zero, List.set_cons_succ])
  ((refine wpAnyH_take (i := 2) (v := ?_) (by (simp only [List.getElem?_toArray, List.getElem?_cons_succ, List.getElem?_cons_zero]); rfl) (by kernel_rfl) (by kernel_rfl) (by kernel_rfl) (by exact fun _ _ _ h => h) (Or.inl ⟨by rfl, ?_⟩) (by assumption) ?_); rotate_left; focus (intro wS hSw; (try dsimp only at hSw); go_simp; first | done | with_reducible rfl); try simp only [Act.put, List.setIfInBounds_toArray, List.set_cons_zero, List.set_cons_succ])
  ((refine wpAnyH_take (i := 3) (v := ?_) (by (simp only [List.getElem?_toArray, List.getElem?_cons_succ, List.getElem?_cons_zero]); rfl) (by kernel_rfl) (by kernel_rfl) (by kernel_rfl) (by exact fun _ _ _ h => h) (Or.inl ⟨by (go_simp; try rfl), ?_⟩) (by assumption) ?_); rotate_left; focus (intro wS hSw; (try dsimp only at hSw); go_simp; first | done | with_reducible rfl); try simp only [Act.put, List.setIfInBounds_toArray, List.set_cons_zero, List.set_cons_succ])
  ((refine wpAnyH_take (i := 4) (v := ?_) (by (simp only [List.getElem?_toArray, List.getElem?_cons_succ, List.getElem?_cons_zero]); rfl) (by kernel_rfl) (by kernel_rfl) (by kernel_rfl) (by exact fun _ _ _ h => h) (Or.inl ⟨by (go_simp; try rfl), ?_⟩) (by assumption) ?_); rotate_left; focus (intro wS hSw; (try dsimp only at hSw); go_simp; first | done | with_reducible rfl); try simp only [Act.put, List.setIfInBounds_toArray, List.set_cons_zero, List.set_cons_succ])
  ((refine wpAnyH_take (i := 5) (v := ?_) (by (simp only [List.getElem?_toArray, List.getElem?_cons_succ, List.getElem?_cons_zero]); rfl) (by kernel_rfl) (by kernel_rfl) (by kernel_rfl) (by exact fun _ _ _ h => h) (Or.inl ⟨by (go_simp; try rfl), ?_⟩) (by assumption) ?_); rotate_left; focus (intro wS hSw; (try dsimp only at hSw); go_simp; first | done | with_reducible rfl); try simp only [Act.put, List.setIfInBounds_toArray, List.set_cons_zero, List.set_cons_succ])
  ((refine wpAnyH_take (i := 6) (v := ?_) (by (simp only [List.getElem?_toArray, List.getElem?_cons_succ, List.getElem?_cons_zero]); rfl) (by kernel_rfl) (by kernel_rfl) (by kernel_rfl) (by exact fun _ _ _ h => h) (Or.inl ⟨by (go_simp; try rfl), ?_⟩) (by assumption) ?_); rotate_left; focus (intro wS hSw; (try dsimp only at hSw); go_simp; first | done | with_reducible rfl); try simp only [Act.put, List.setIfInBounds_toArray, List.set_cons_zero, List.set_cons_succ])
  ((refine wpAnyH_take (i := 7) (v := ?_) (by (simp only [List.getElem?_toArray, List.getElem?_cons_succ, List.getElem?_cons_zero]); rfl) (by kernel_rfl) (by kernel_rfl) (by kernel_rfl) (by exact fun _ _ _ h => h) (Or.inl ⟨by (go_simp; try rfl), ?_⟩) (by assumption) ?_); rotate_left; focus (intro wS hSw; (try dsimp only at hSw); go_simp; first | done | with_reducible rfl); try simp only [Act.put, List.setIfInBounds_toArray, List.set_cons_zero, List.set_cons_succ])
  ((refine wpAnyH_take (i := 8) (v := ?_) (by (simp only [List.getElem?_toArray, List.getElem?_cons_succ, List.getElem?_cons_zero]); rfl) (by kernel_rfl) (by kernel_rfl) (by kernel_rfl) (by exact fun _ _ _ h => h) (Or.inl ⟨by (go_simp; try rfl), ?_⟩) (by assumption) ?_); rotate_left; focus (intro wS hSw; (try dsimp only at hSw); go_simp; first | done | with_reducible rfl); try simp only [Act.put, List.setIfInBounds_toArray, List.set_cons_zero, List.set_cons_succ])
  ((refine wpAnyH_take (i := 9) (v := ?_) (by (simp only [List.getElem?_toArray, List.getElem?_cons_succ, List.getElem?_cons_zero]); rfl) (by kernel_rfl) (by kernel_rfl) (by kernel_rfl) (by exact fun _ _ _ h => h) (Or.inl ⟨by (go_simp; try rfl), ?_⟩) (by assumption) ?_); rotate_left; focus (intro wS hSw; (try dsimp only at hSw); go_simp; first | done | with_reducible rfl); try simp only [Act.put, List.setIfInBounds_toArray, List.set_cons_zero, List.set_cons_succ])
  ((refine wpAnyH_take (i := 10) (v := ?_) (by (simp only [List.getElem?_toArray, List.getElem?_cons_succ, List.getElem?_cons_zero]); rfl) (by kernel_rfl) (by kernel_rfl) (by kernel_rfl) (by exact fun _ _ _ h => h) (Or.inl ⟨by (go_simp; try rfl), ?_⟩) (by assumption) ?_); rotate_left; focus (intro wS hSw; (try dsimp only at hSw); go_simp; first | done | with_reducible rfl); try simp only [Act.put, List.setIfInBounds_toArray, List.set_cons_zero, List.set_cons_succ])
  ((refine wpAnyH_take (i := 11) (v := ?_) (by (simp only [List.getElem?_toArray, List.getElem?_cons_succ, List.getElem?_cons_zero]); rfl) (by kernel_rfl) (by kernel_rfl) (by kernel_rfl) (by exact fun _ _ _ h => h) (Or.inl ⟨by rfl, ?_⟩) (by assumption) ?_); rotate_left; focus (intro wS hSw; (try dsimp only at hSw); go_simp; first | done | with_reducible rfl); try simp only [Act.put, List.setIfInBounds_toArray, List.set_cons_zero, List.set_cons_succ])
  refine wpAnyH_done (by kernel_rfl) ?_ _
  try simp only [Act.put, List.setIfInBounds_toArray, List.set_cons_zero, List.set_cons_succ]
  go_wp2_with fail
  go_roundw
  case rel => exact ⟨k + 1, by have := HLT.out; omega, by go_num, HBX.out⟩
  case measure => (have h8 := HLT.out; first | (simp [intOf]; done) | (simp [intOf]; omega))
theorem judgeWhole_dt (a : Option Addr) (n c : Nat) (xs : List Dt) (a2 : Option Addr) (n2 c2 : Nat) (xs2 : List Dt) (a3 : Option Addr) (n3 c3 : Nat) (xs3 : List Dt) (a4 : Option Addr) (n4 c4 : Nat) (xs4 : List Dt) (w : World) (h : SliceFits Try.prog w 26 a n c xs) (h2 : SliceFits Try.prog w 79 a2 n2 c2 xs2) (h3 : SliceFits Try.prog w 34 a3 n3 c3 xs3) (h4 : SliceFits Try.prog w 26 a4 n4 c4 xs4) : Calls Try.prog 3 #[.slice a n c, .slice a2 n2 c2, .slice a3 n3 c3, .slice a4 n4 c4] w fun e w' => e = .returned (.bool true) ∧ Below w.heap.size w w' := by
  obtain ⟨ib, io, HI, hI, m1⟩ := bs_cells2 w h
  obtain ⟨fb, fo, FE, hF⟩ := flow_cells w h2
  obtain ⟨ob, oo, S, hS⟩ := sent_cells w h3
  obtain ⟨bb, bo, HB, hB, m2⟩ := bs_cells2 w h4
  exact judgeWhole_walk a n c ib io HI a2 n2 c2 fb fo FE a3 n3 c3 ob oo S a4 n4 c4 bb bo HB w hI hF hS hB m1 m2
end Go.Proofs.Ytcimcmfibinehaa
