/-
  What is found fits; something is found where some row fits.
-/
import Derived.Test.YthmjlomlceljkaaHii
import Derived.Test.YthmjlomlceljkaaHih
import Derived.Deep.DeepFit
import Derived.Lib.AppendZeros
import Derived.Deep.RegionLaw
import Derived.Deep.RegionWith
import Derived.Lib.EndianBits
import Derived.Deep.MidRow
namespace Go.Proofs.Ythmjlomlceljkaa
open Go.RowKit
set_option linter.unusedSimpArgs false
set_option linter.unusedVariables false

theorem srL_some {f : Nat → List FcE → Option (List Int)} {L : List CaE} {D : Nat} {t : List FcE} {r : List Int} : ∀ (m k : Nat), k + m = L.length → srL f L D t k (L.drop k) = some r → ∃ (q : Nat) (r' : List Int), k ≤ q ∧ q < L.length ∧ r = (q : Int) :: r' ∧ (D.testBit q || !stB D (gCa L q).fr 0 L) = false ∧ neA (gCa L q) (doC t (gCa L q)) = false ∧ f (D ||| 2 ^ q) (doC t (gCa L q)).l = some r'
  | 0, k, hk, h => by
    rw [List.drop_of_length_le (by omega)] at h
    cases h
  | m + 1, k, hk, h => by
    rw [srL_step (by omega)] at h
    have ih := srL_some (f := f) (L := L) (D := D) (t := t) (r := r) m (k + 1) (by omega)
    have up : (∃ (q : Nat) (r' : List Int), k + 1 ≤ q ∧ q < L.length ∧ r = (q : Int) :: r' ∧ (D.testBit q || !stB D (gCa L q).fr 0 L) = false ∧ neA (gCa L q) (doC t (gCa L q)) = false ∧ f (D ||| 2 ^ q) (doC t (gCa L q)).l = some r') → ∃ (q : Nat) (r' : List Int), k ≤ q ∧ q < L.length ∧ r = (q : Int) :: r' ∧ (D.testBit q || !stB D (gCa L q).fr 0 L) = false ∧ neA (gCa L q) (doC t (gCa L q)) = false ∧ f (D ||| 2 ^ q) (doC t (gCa L q)).l = some r' := fun ⟨q, r', h1, h2⟩ => ⟨q, r', by omega, h2⟩
    by_cases h1 : (D.testBit k || !stB D (gCa L k).fr 0 L) = true
    · rw [if_pos h1] at h; exact up (ih h)
    · rw [if_neg h1] at h
      by_cases h2 : neA (gCa L k) (doC t (gCa L k)) = true
      · rw [if_pos h2] at h; exact up (ih h)
      · rw [if_neg h2] at h
        cases hf : f (D ||| 2 ^ k) (doC t (gCa L k)).l with
        | some r' =>
          rw [hf] at h
          exact ⟨k, r', Nat.le_refl _, by omega, (Option.some.inj h).symm, Bool.eq_false_iff.2 h1, Bool.eq_false_iff.2 h2, hf⟩
        | none =>
          rw [hf] at h
          exact up (ih h)
theorem srL_none {f : Nat → List FcE → Option (List Int)} {L : List CaE} {D : Nat} {t : List FcE} : ∀ (m k : Nat), k + m = L.length → srL f L D t k (L.drop k) = none → ∀ q, k ≤ q → q < L.length → (D.testBit q || !stB D (gCa L q).fr 0 L) = false → neA (gCa L q) (doC t (gCa L q)) = false → f (D ||| 2 ^ q) (doC t (gCa L q)).l = none
  | 0, k, hk, h => fun q h1 h2 => by omega
  | m + 1, k, hk, h => fun q h1 h2 h3 h4 => by
    rw [srL_step (by omega)] at h
    have ih := srL_none (f := f) (L := L) (D := D) (t := t) m (k + 1) (by omega)
    by_cases g1 : (D.testBit k || !stB D (gCa L k).fr 0 L) = true
    · rw [if_pos g1] at h
      rcases Nat.eq_or_lt_of_le h1 with rfl | h5
      · rw [g1] at h3; cases h3
      · exact ih h q h5 h2 h3 h4
    · rw [if_neg g1] at h
      by_cases g2 : neA (gCa L k) (doC t (gCa L k)) = true
      · rw [if_pos g2] at h
        rcases Nat.eq_or_lt_of_le h1 with rfl | h5
        · rw [g2] at h4; cases h4
        · exact ih h q h5 h2 h3 h4
      · rw [if_neg g2] at h
        cases hf : f (D ||| 2 ^ k) (doC t (gCa L k)).l with
        | some r' => rw [hf] at h; cases h
        | none =>
          rw [hf] at h
          rcases Nat.eq_or_lt_of_le h1 with rfl | h5
          · exact hf
          · exact ih h q h5 h2 h3 h4
theorem sr_try (L : List CaE) : ∀ (m D : Nat) (t : List FcE) (r : List Int), free D L.length < m → sr L D t = some r → tryL L D t r = true
  | 0, D, t, r, h, _ => by omega
  | m + 1, D, t, r, h, hs => by
    rw [sr_eq] at hs
    by_cases ha : alB D 0 L = true
    · rw [if_pos ha] at hs
      obtain rfl := Option.some.inj hs
      exact ha
    · rw [if_neg ha] at hs
      have hs' : srL (sr L) L D t 0 (L.drop 0) = some r := hs
      obtain ⟨q, r', _, h2, rfl, h4, h5, h6⟩ := srL_some L.length 0 (by omega) hs'
      rw [tryL_in h2, if_neg (by rw [h4]; simp), if_neg (by rw [h5]; simp)]
      have hb : D.testBit q = false := by
        cases hq : D.testBit q
        · rfl
        · rw [hq] at h4; simp at h4
      exact sr_try L m _ _ _ (by have := free_or h2 hb; omega) h6
theorem sr_none (L : List CaE) : ∀ (ord : List Int) (D : Nat) (t : List FcE), sr L D t = none → tryL L D t ord = false
  | [], D, t, h => by
    rw [sr_eq] at h
    by_cases ha : alB D 0 L = true
    · rw [if_pos ha] at h; cases h
    · exact Bool.eq_false_iff.2 ha
  | x :: r, D, t, h => by
    by_cases hx : x < 0 ∨ (L.length : Int) ≤ x
    · exact tryL_out hx
    · obtain ⟨q, rfl⟩ : ∃ q : Nat, x = q := ⟨x.toNat, by omega⟩
      have hq : q < L.length := by omega
      rw [tryL_in hq]
      rw [sr_eq] at h
      by_cases ha : alB D 0 L = true
      · rw [if_pos ha] at h; cases h
      · rw [if_neg ha] at h
        have h' : srL (sr L) L D t 0 (L.drop 0) = none := h
        by_cases h1 : (D.testBit q || !stB D (gCa L q).fr 0 L) = true
        · rw [if_pos h1]
        · rw [if_neg h1]
          by_cases h2 : neA (gCa L q) (doC t (gCa L q)) = true
          · rw [if_pos h2]
          · rw [if_neg h2]
            exact sr_none L r _ _ (srL_none L.length 0 (by omega) h' q (Nat.zero_le _) hq (Bool.eq_false_iff.2 h1) (Bool.eq_false_iff.2 h2))
set_option maxRecDepth 100000 in
set_option maxHeartbeats 16000000 in
theorem historyFound_walk (v vo : Value) (L : List CaE) (ord : List Int) (w : World) (h : CaV w v L) (ho : InV w vo ord) : Calls Try.prog 7 #[v, vo] w fun e w' => e = .returned (.bool true) ∧ Below w.heap.size w w' := by
  obtain ⟨a, n, cap, rfl, HN, m1, m2⟩ := h.sh
  obtain ⟨ia, iN, ic, rfl, Hin, in1, in2⟩ := ho.sh
  have HL0 := Lib.hid h
  have HL := Lib.hid h
  have HI0 := Lib.hid ho
  have HI := Lib.hid ho
  have HCK := Lib.hid (fun W (h : CaV W (.slice a n cap) L) => check_any _ L W h)
  have HFI := Lib.hid (fun W (h : CaV W (.slice a n cap) L) => fits_any _ L W h)
  have HTY := Lib.hid (fun W vo ord (h : CaV W (.slice a n cap) L) (ho : InV W vo ord) => try_any _ vo L ord W h ho)
  have HWK := Lib.hid (fun W => hwakes_any W)
  obtain ⟨C, hC⟩ : ∃ C, C = ckB L := ⟨_, rfl⟩
  rw [← hC] at HCK HTY
  have HC := Lib.hid hC
  clear hC h ho
  have HB : Hid (Below w.heap.size w w) := Lib.hid (Below.refl _ _)
  by_cases k1 : 7 < n
  · skip
    have t1 : decide ((7 : Int) < (n : Int)) = true := decide_eq_true (by omega)
    go_enter Try.func7, Try.ntmps7
    go_wp2_with fail
    go_at_call 19
    go_fit (HWK.out _)
    rintro e W1 ⟨rfl, hB⟩
    replace HB := Lib.hid (HB.out.trans (hB.mono HB.out.size))
    replace HL := Lib.hid (HL0.out.below HB.out)
    replace HI := Lib.hid (HI0.out.below HB.out)
    clear hB
    go_wp2_with fail
    go_ret
    exact ⟨rfl, HB.out⟩
  have t1 : decide ((7 : Int) < (n : Int)) = false := decide_eq_false (by omega)
  by_cases k2 : 60 < iN
  · skip
    have t2 : decide ((60 : Int) < (iN : Int)) = true := decide_eq_true (by omega)
    go_enter Try.func7, Try.ntmps7
    go_wp2_with fail
    go_at_call 19
    go_fit (HWK.out _)
    rintro e W1 ⟨rfl, hB⟩
    replace HB := Lib.hid (HB.out.trans (hB.mono HB.out.size))
    replace HL := Lib.hid (HL0.out.below HB.out)
    replace HI := Lib.hid (HI0.out.below HB.out)
    clear hB
    go_wp2_with fail
    go_ret
    exact ⟨rfl, HB.out⟩
  have t2 : decide ((60 : Int) < (iN : Int)) = false := decide_eq_false (by omega)
  go_enter Try.func7, Try.ntmps7
  go_wp2_with fail
  go_at_call 23
  go_fit (HCK.out _ HL.out)
  rintro e W1 ⟨rfl, hB⟩
  replace HB := Lib.hid (HB.out.trans (hB.mono HB.out.size))
  replace HL := Lib.hid (HL0.out.below HB.out)
  replace HI := Lib.hid (HI0.out.below HB.out)
  clear hB
  cases C
  · skip
    go_wp2_with fail
    go_at_call 19
    go_fit (HWK.out _)
    rintro e W2 ⟨rfl, hB⟩
    replace HB := Lib.hid (HB.out.trans (hB.mono HB.out.size))
    replace HL := Lib.hid (HL0.out.below HB.out)
    replace HI := Lib.hid (HI0.out.below HB.out)
    clear hB
    go_wp2_with fail
    go_ret
    exact ⟨rfl, HB.out⟩
  have hfe : fitsE L = 0 := by unfold fitsE; rw [if_pos HC.out.symm]
  have hfo : fitsO L = (sr L 0 []).getD [] := by unfold fitsO; rw [if_pos HC.out.symm]
  have hfb : fitsB L = (sr L 0 []).isSome := by unfold fitsB; rw [← HC.out]; rfl
  rw [hfe, hfo, hfb] at HFI
  rw [hfe] at HTY
  have HSN := Lib.hid (fun ord => sr_none L ord 0 [])
  have HST := Lib.hid (fun r => sr_try L (free 0 L.length + 1) 0 [] r (by omega))
  clear hfe hfo hfb
  obtain ⟨R, hR⟩ : ∃ R, R = sr L 0 [] := ⟨_, rfl⟩
  rw [← hR] at HSN HST HFI
  clear hR
  cases R
  · skip
    go_wp2_with fail
    go_at_call 27
    go_fit (HFI.out _ HL.out)
    rintro e W2 ⟨v1, ob1, rfl, hv1, hB⟩
    replace HB := Lib.hid (HB.out.trans (hB.mono HB.out.size))
    replace HL := Lib.hid (HL0.out.below HB.out)
    replace HI := Lib.hid (HI0.out.below HB.out)
    clear hB
    obtain ⟨a1, n1, c1, rfl, H1, q11, q12⟩ := hv1.v.sh
    obtain rfl : n1 = 0 := H1.out
    clear hv1 H1
    have HTY2 := Lib.hid (fun W h h2 => HTY.out W (.slice ia iN ic) ord h h2)
    rw [HSN.out ord (by first | rfl | trivial), Bool.and_false] at HTY2
    clear HTY
    go_wp2_with fail
    go_at_call 25
    go_fit (HTY2.out _ HL.out HI.out)
    rintro e W3 ⟨rfl, hB⟩
    replace HB := Lib.hid (HB.out.trans (hB.mono HB.out.size))
    replace HL := Lib.hid (HL0.out.below HB.out)
    replace HI := Lib.hid (HI0.out.below HB.out)
    clear hB
    go_wp2_with fail
    go_at_call 19
    go_fit (HWK.out _)
    rintro e W4 ⟨rfl, hB⟩
    replace HB := Lib.hid (HB.out.trans (hB.mono HB.out.size))
    replace HL := Lib.hid (HL0.out.below HB.out)
    replace HI := Lib.hid (HI0.out.below HB.out)
    clear hB
    go_wp2_with fail
    go_ret
    exact ⟨rfl, HB.out⟩
  · skip
    rename_i r
    go_wp2_with fail
    go_at_call 27
    go_fit (HFI.out _ HL.out)
    rintro e W2 ⟨v1, ob1, rfl, hv1, hB⟩
    replace HB := Lib.hid (HB.out.trans (hB.mono HB.out.size))
    replace HL := Lib.hid (HL0.out.below HB.out)
    replace HI := Lib.hid (HI0.out.below HB.out)
    clear hB
    have HV1 := Lib.hid hv1.v
    clear hv1
    have HTY2 := Lib.hid (fun W v h h2 => HTY.out W v r h h2)
    rw [HST.out r (by first | rfl | trivial), Bool.and_true] at HTY2
    clear HTY
    go_wp2_with fail
    go_at_call 25
    go_fit (HTY2.out _ _ HL.out HV1.out)
    rintro e W3 ⟨rfl, hB⟩
    replace HB := Lib.hid (HB.out.trans (hB.mono HB.out.size))
    replace HL := Lib.hid (HL0.out.below HB.out)
    replace HI := Lib.hid (HI0.out.below HB.out)
    clear hB
    go_wp2_with fail
    go_at_call 19
    go_fit (HWK.out _)
    rintro e W4 ⟨rfl, hB⟩
    replace HB := Lib.hid (HB.out.trans (hB.mono HB.out.size))
    replace HL := Lib.hid (HL0.out.below HB.out)
    replace HI := Lib.hid (HI0.out.below HB.out)
    clear hB
    go_wp2_with fail
    go_ret
    exact ⟨rfl, HB.out⟩
theorem historyFound_dt (a : Option Addr) (n c : Nat) (xs : List Dt) (a2 : Option Addr) (n2 c2 : Nat) (xs2 : List Dt) (w : World) (h : SliceFits Try.prog w 67 a n c xs) (h2 : SliceFits Try.prog w 3 a2 n2 c2 xs2) : Calls Try.prog 7 #[.slice a n c, .slice a2 n2 c2] w fun e w' => e = .returned (.bool true) ∧ Below w.heap.size w w' := by
  obtain ⟨L, _, hL⟩ := cav_cells w h
  obtain ⟨O, _, hO⟩ := inv_cells w h2
  exact historyFound_walk _ _ L O w hL hO
end Go.Proofs.Ythmjlomlceljkaa
