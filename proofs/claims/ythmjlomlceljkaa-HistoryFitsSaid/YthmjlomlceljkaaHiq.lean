/-
  The search and the document search alike.
-/
import Derived.Test.YthmjlomlceljkaaHip
import Derived.Test.YthmjlomlceljkaaHij
import Derived.Deep.DeepFit
import Derived.Lib.AppendZeros
import Derived.Deep.RegionLaw
import Derived.Deep.RegionWith
import Derived.Lib.EndianBits
import Derived.Deep.MidRow
namespace Go.Proofs.Ythmjlomlceljkaa
open Go.RowKit
set_option linter.unusedSimpArgs false
set_option linter.unusedVariables false

set_option maxRecDepth 100000 in
set_option maxHeartbeats 16000000 in
theorem rfits_any (v : Value) (L : List CaE) (w : World) (h : CaV w v L) : Calls Try.prog 28 #[v] w fun e w' => ∃ vo, e = .returned (.tuple #[vo, .bool (fitsB L), .int .i64 (fitsE L)]) ∧ InV w' vo (fitsO L) ∧ Below w.heap.size w w' := by
  obtain ⟨a, n, cap, rfl, HN, m1, m2⟩ := h.sh
  have HL0 := Lib.hid h
  have HL := Lib.hid h
  have HCK := Lib.hid (fun W (h : CaV W (.slice a n cap) L) => rcheck_any _ L W h)
  obtain ⟨C, hC⟩ : ∃ C, C = ckB L := ⟨_, rfl⟩
  rw [← hC] at HCK
  have HC := Lib.hid hC
  clear hC h
  have HB : Hid (Below w.heap.size w w) := Lib.hid (Below.refl _ _)
  obtain ⟨O, hO⟩ : ∃ O, O = fitsO L := ⟨_, rfl⟩
  obtain ⟨B, hBB⟩ : ∃ O, O = fitsB L := ⟨_, rfl⟩
  obtain ⟨E, hE⟩ : ∃ O, O = fitsE L := ⟨_, rfl⟩
  rw [← hO, ← hBB, ← hE]
  unfold fitsO at hO
  unfold fitsB at hBB
  unfold fitsE at hE
  have HO := Lib.hid hO
  have HBB := Lib.hid hBB
  have HE := Lib.hid hE
  clear hO hBB hE
  go_enter Try.func28, Try.ntmps28
  go_wp2_with fail
  go_at_call 24
  go_fit (HCK.out _ HL.out)
  rintro e W1 ⟨rfl, hB⟩
  replace HB := Lib.hid (HB.out.trans (hB.mono HB.out.size))
  replace HL := Lib.hid (HL0.out.below HB.out)
  clear hB
  cases C
  · skip
    rw [← HC.out] at HO HBB HE
    have q1 := HO.out
    have q2 := HBB.out
    have q3 := HE.out
    rw [Bool.false_and] at q2
    rw [if_neg (by decide)] at q1 q3
    subst q1
    subst q2
    subst q3
    go_wp2_with fail
    exact bodyPost_ret (v := .tuple #[.slice none 0 0, .bool false, .int .i64 2]) (by simp [results, Try.results28, go_sem]) rfl ⟨_, rfl, inv_nil _, HB.out⟩
  rw [← HC.out] at HO HBB HE
  have q1 := HO.out
  have q2 := HBB.out
  have q3 := HE.out
  rw [Bool.true_and] at q2
  rw [if_pos rfl] at q1 q3
  subst q1
  subst q2
  subst q3
  go_upto_region 4 with fail
  obtain ⟨N, hN⟩ : ∃ n0, n0 = W1.heap.size := ⟨_, rfl⟩
  obtain ⟨W8, hA⟩ : ∃ W0, W0 = W1.alloc (.cells #[.slice a n cap, .slice none 0 0] 110) := ⟨_, rfl⟩
  have hB : Below W1.heap.size W1 W8 := by rw [hA]; exact (Below.refl _ _).alloc (Nat.le_refl _) _
  have hcf : Blk W8 N #[.slice a n cap, .slice none 0 0] 110 := by rw [hA, hN]; exact blk_new _ _ _
  have hwn : w.heap.size ≤ N := by rw [hN]; exact HB.out.size
  rw [← hN, ← hA]
  clear hA hN
  have hck : ckB L = true := HC.out.symm
  have hL12 : L.length ≤ 12 := by unfold ckB at hck; simp only [Bool.and_eq_true, decide_eq_true_eq] at hck; exact hck.1
  have hall : allC L = true := by unfold ckB at hck; simp only [Bool.and_eq_true, decide_eq_true_eq] at hck; exact hck.2
  have HFI := Lib.hid (find_any w N (.slice a n cap) L hL12 hall 13 0 [] (.slice none 0 0) none (.slice none 0 0) none [] W8 (by have := free_le L.length 0; omega) (by omega) rfl (fco_nil _ _) ⟨HB.out.trans (hB.mono HB.out.size), HL0.out, hcf, deo_nil _ _, hwn, fun e he => by simp at he⟩ (by decide))
  clear hck hL12 hall hcf hwn hB
  go_wp2_with fail
  go_at_call 57
  go_fit HFI.out
  rintro e W9 ⟨v9, rfl, hv9, hs9, vd9, ob9, E9, hE9, _⟩
  clear HFI
  obtain ⟨a9, n9, c9, rfl, H9, q91, q92⟩ := hv9.sh
  have HV9 := Lib.hid hv9
  have HLO := Lib.hid hE9.lo
  obtain ⟨bs, hbs⟩ : ∃ b, b = (sr L 0 []).isSome := ⟨_, rfl⟩
  rw [← hbs]
  have HBS := Lib.hid hbs
  clear hv9 hs9 hE9 hbs
  go_wp2_with fail
  exact bodyPost_ret (v := .tuple #[.slice a9 n9 c9, .bool bs, .int .i64 0]) (by simp [results, Try.results28, go_sem]) rfl ⟨.slice a9 n9 c9, by rw [HBS.out], HV9.out, HLO.out⟩
set_option maxRecDepth 100000 in
set_option maxHeartbeats 16000000 in
theorem historyFits_walk (v : Value) (L : List CaE) (w : World) (h : CaV w v L) : Calls Try.prog 6 #[v] w fun e w' => e = .returned (.bool true) ∧ Below w.heap.size w w' := by
  obtain ⟨a, n, cap, rfl, HN, m1, m2⟩ := h.sh
  have HL0 := Lib.hid h
  have HL := Lib.hid h
  have HFI := Lib.hid (fun W (h : CaV W (.slice a n cap) L) => fits_any _ L W h)
  have HRF := Lib.hid (fun W (h : CaV W (.slice a n cap) L) => rfits_any _ L W h)
  have HWK := Lib.hid (fun W => hwakes_any W)
  obtain ⟨O, hO⟩ : ∃ O, O = fitsO L := ⟨_, rfl⟩
  obtain ⟨B, hBB⟩ : ∃ O, O = fitsB L := ⟨_, rfl⟩
  obtain ⟨E, hE⟩ : ∃ O, O = fitsE L := ⟨_, rfl⟩
  rw [← hO, ← hBB, ← hE] at HFI HRF
  clear hO hBB hE h
  have HB : Hid (Below w.heap.size w w) := Lib.hid (Below.refl _ _)
  by_cases k1 : 7 < n
  rotate_left
  · skip
    have t1 : decide ((7 : Int) < (n : Int)) = false := decide_eq_false (by omega)
    have t3 : decide ((60 : Int) < (n : Int)) = false := decide_eq_false (by omega)
    go_enter Try.func6, Try.ntmps6
    go_wp2_with fail
    go_at_call 27
    go_fit (HFI.out _ HL.out)
    rintro e W1 ⟨v1, ob1, rfl, hv1, hB⟩
    replace HB := Lib.hid (HB.out.trans (hB.mono HB.out.size))
    replace HL := Lib.hid (HL0.out.below HB.out)
    clear hB
    obtain ⟨a1, n1, c1, rfl, H1, q11, q12⟩ := hv1.v.sh
    have HV1 := Lib.hid hv1.v
    clear hv1
    go_wp2_with fail
    go_at_call 28
    go_fit (HRF.out _ HL.out)
    rintro e W2 ⟨v2, rfl, hv2, hB⟩
    replace HB := Lib.hid (HB.out.trans (hB.mono HB.out.size))
    replace HL := Lib.hid (HL0.out.below HB.out)
    replace HV1 := Lib.hid (HV1.out.below hB)
    clear hB
    obtain ⟨a2, n2, c2, rfl, H2, q21, q22⟩ := hv2.sh
    have HV2 := Lib.hid hv2
    obtain rfl : n1 = n2 := by rw [H1.out, H2.out]
    clear hv2
    go_wp2_with fail
    go_loopw [9, 53] (fun _ i wq => ∃ k : Nat, k ≤ n1 ∧ i = .int .i64 k ∧ InV wq (.slice a1 n1 c1) O ∧ InV wq (.slice a2 n1 c2) O ∧ Below w.heap.size w wq) (fun _ i _ => n1 - (intOf i).toNat)
    case atStart => exact ⟨0, Nat.zero_le _, rfl, HV1.out, HV2.out, HB.out⟩
    case round =>
      clear HB HL HV1 HV2
      obtain ⟨k, hk, rfl, h1, h2, hB⟩ := hrel
      have HB := Lib.hid hB
      have HV1 := Lib.hid h1
      have HV2 := Lib.hid h2
      clear hB h1 h2
      by_cases hlt : k < n1
      · obtain ⟨g, o, x, ea, g1, hx, c0⟩ := HV1.out.at k hlt
        obtain ⟨g', o', y, ea', g1', hy, d0⟩ := HV2.out.at k hlt
        subst ea
        subst ea'
        obtain rfl : x = y := Option.some.inj (hx.symm.trans hy)
        have e1 : (x != x) = false := by simp
        have ww5 : IntKind.i64.wrap ((k : Int) + 1) = (k : Int) + 1 := IntWalk.i64_in _ (by omega)
        have b9 : ((k : Int) < (n1 : Int)) = True := eq_true (by omega)
        have bk1 : (k < n1) = True := eq_true hlt
        have HLT := Lib.hid hlt
        clear hx hy hlt
        go_wp2_with fail
        (refine wp_region_quiet_lit (by kernel_rfl) (by kernel_rfl) ?_; (repeat (first | go_big_quiet_step (fail) | (refine BigFrame.wpQuiet_skip (by rfl) ?_; try simp only [Act.put, List.setIfInBounds_toArray, List.set_cons_zero, List.set_cons_succ]))); refine wpQuiet_nil ?_; intro _ hw9; obtain ⟨nq, hw8⟩ := hw9; subst hw8)
        go_wp2_with fail
        go_roundw
        case rel => exact ⟨k + 1, by have := HLT.out; omega, by go_num, HV1.out.below (dN _ _), HV2.out.below (dN _ _), HB.out.trans ((dN _ _).mono HB.out.size)⟩
        case measure => (have h8 := HLT.out; first | (simp [intOf]; done) | (simp [intOf]; omega))
      · obtain rfl : k = n1 := by omega
        go_wp2_with fail
        go_at_call 19
        go_fit (HWK.out _)
        rintro e W51 ⟨rfl, hB⟩
        replace HB := Lib.hid (HB.out.trans (hB.mono HB.out.size))
        clear hB
        go_wp2_with fail
        go_ret
        exact ⟨rfl, HB.out⟩
  have t1 : decide ((7 : Int) < (n : Int)) = true := decide_eq_true (by omega)
  by_cases k2 : n ≤ 12
  · skip
    have t2 : decide ((n : Int) ≤ 12) = true := decide_eq_true (by omega)
    go_enter Try.func6, Try.ntmps6
    go_wp2_with fail
    go_at_call 19
    go_fit (HWK.out _)
    rintro e W1 ⟨rfl, hB⟩
    replace HB := Lib.hid (HB.out.trans (hB.mono HB.out.size))
    replace HL := Lib.hid (HL0.out.below HB.out)
    clear hB
    go_wp2_with fail
    go_ret
    exact ⟨rfl, HB.out⟩
  have t2 : decide ((n : Int) ≤ 12) = false := decide_eq_false (by omega)
  by_cases k3 : 60 < n
  · skip
    have t3 : decide ((60 : Int) < (n : Int)) = true := decide_eq_true (by omega)
    go_enter Try.func6, Try.ntmps6
    go_wp2_with fail
    go_at_call 19
    go_fit (HWK.out _)
    rintro e W1 ⟨rfl, hB⟩
    replace HB := Lib.hid (HB.out.trans (hB.mono HB.out.size))
    replace HL := Lib.hid (HL0.out.below HB.out)
    clear hB
    go_wp2_with fail
    go_ret
    exact ⟨rfl, HB.out⟩
  have t3 : decide ((60 : Int) < (n : Int)) = false := decide_eq_false (by omega)
  go_enter Try.func6, Try.ntmps6
  go_wp2_with fail
  go_at_call 27
  go_fit (HFI.out _ HL.out)
  rintro e W1 ⟨v1, ob1, rfl, hv1, hB⟩
  replace HB := Lib.hid (HB.out.trans (hB.mono HB.out.size))
  replace HL := Lib.hid (HL0.out.below HB.out)
  clear hB
  obtain ⟨a1, n1, c1, rfl, H1, q11, q12⟩ := hv1.v.sh
  have HV1 := Lib.hid hv1.v
  clear hv1
  go_wp2_with fail
  go_at_call 28
  go_fit (HRF.out _ HL.out)
  rintro e W2 ⟨v2, rfl, hv2, hB⟩
  replace HB := Lib.hid (HB.out.trans (hB.mono HB.out.size))
  replace HL := Lib.hid (HL0.out.below HB.out)
  replace HV1 := Lib.hid (HV1.out.below hB)
  clear hB
  obtain ⟨a2, n2, c2, rfl, H2, q21, q22⟩ := hv2.sh
  have HV2 := Lib.hid hv2
  obtain rfl : n1 = n2 := by rw [H1.out, H2.out]
  clear hv2
  go_wp2_with fail
  go_loopw [9, 53] (fun _ i wq => ∃ k : Nat, k ≤ n1 ∧ i = .int .i64 k ∧ InV wq (.slice a1 n1 c1) O ∧ InV wq (.slice a2 n1 c2) O ∧ Below w.heap.size w wq) (fun _ i _ => n1 - (intOf i).toNat)
  case atStart => exact ⟨0, Nat.zero_le _, rfl, HV1.out, HV2.out, HB.out⟩
  case round =>
    clear HB HL HV1 HV2
    obtain ⟨k, hk, rfl, h1, h2, hB⟩ := hrel
    have HB := Lib.hid hB
    have HV1 := Lib.hid h1
    have HV2 := Lib.hid h2
    clear hB h1 h2
    by_cases hlt : k < n1
    · obtain ⟨g, o, x, ea, g1, hx, c0⟩ := HV1.out.at k hlt
      obtain ⟨g', o', y, ea', g1', hy, d0⟩ := HV2.out.at k hlt
      subst ea
      subst ea'
      obtain rfl : x = y := Option.some.inj (hx.symm.trans hy)
      have e1 : (x != x) = false := by simp
      have ww5 : IntKind.i64.wrap ((k : Int) + 1) = (k : Int) + 1 := IntWalk.i64_in _ (by omega)
      have b9 : ((k : Int) < (n1 : Int)) = True := eq_true (by omega)
      have bk1 : (k < n1) = True := eq_true hlt
      have HLT := Lib.hid hlt
      clear hx hy hlt
      go_wp2_with fail
      (refine wp_region_quiet_lit (by kernel_rfl) (by kernel_rfl) ?_; (repeat (first | go_big_quiet_step (fail) | (refine BigFrame.wpQuiet_skip (by rfl) ?_; try simp only [Act.put, List.setIfInBounds_toArray, List.set_cons_zero, List.set_cons_succ]))); refine wpQuiet_nil ?_; intro _ hw9; obtain ⟨nq, hw8⟩ := hw9; subst hw8)
      go_wp2_with fail
      go_roundw
      case rel => exact ⟨k + 1, by have := HLT.out; omega, by go_num, HV1.out.below (dN _ _), HV2.out.below (dN _ _), HB.out.trans ((dN _ _).mono HB.out.size)⟩
      case measure => (have h8 := HLT.out; first | (simp [intOf]; done) | (simp [intOf]; omega))
    · obtain rfl : k = n1 := by omega
      go_wp2_with fail
      go_at_call 19
      go_fit (HWK.out _)
      rintro e W51 ⟨rfl, hB⟩
      replace HB := Lib.hid (HB.out.trans (hB.mono HB.out.size))
      clear hB
      go_wp2_with fail
      go_ret
      exact ⟨rfl, HB.out⟩
theorem historyFits_dt (a : Option Addr) (n c : Nat) (xs : List Dt) (w : World) (h : SliceFits Try.prog w 67 a n c xs) : Calls Try.prog 6 #[.slice a n c] w fun e w' => e = .returned (.bool true) ∧ Below w.heap.size w w' := by
  obtain ⟨L, _, hL⟩ := cav_cells w h
  exact historyFits_walk _ L w hL
end Go.Proofs.Ythmjlomlceljkaa
