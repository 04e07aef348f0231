/-
  Whether any row is an order that fits.
-/
import Derived.Test.YthmjlomlceljkaaHim
import Derived.Test.YthmjlomlceljkaaHih
import Derived.Deep.DeepFit
import Derived.Lib.AppendZeros
import Derived.Deep.RegionLaw
import Derived.Deep.RegionWith
import Derived.Lib.EndianBits
import Derived.Deep.MidRow
namespace Go.Proofs.Ythmjlomlceljkaa
open Go.RowKit
set_option linter.unusedSimpArgs false
set_option linter.unusedVariables false

set_option maxRecDepth 100000 in
set_option maxHeartbeats 16000000 in
theorem historyTries_walk (v vo : Value) (L : List CaE) (ord : List Int) (w : World) (h : CaV w v L) (ho : InV w vo ord) : Calls Try.prog 5 #[v, vo] w fun e w' => e = .returned (.bool true) ∧ Below w.heap.size w w' := by
  obtain ⟨a, n, cap, rfl, HN, m1, m2⟩ := h.sh
  obtain ⟨ia, iN, ic, rfl, Hin, in1, in2⟩ := ho.sh
  have HL0 := Lib.hid h
  have HL := Lib.hid h
  have HI0 := Lib.hid ho
  have HI := Lib.hid ho
  have HT1 := Lib.hid (fun W (h : CaV W (.slice a n cap) L) (ho : InV W (.slice ia iN ic) ord) => try_any _ _ L ord W h ho)
  have HT2 := Lib.hid (fun W (h : CaV W (.slice a n cap) L) (ho : InV W (.slice ia iN ic) ord) => rtry_any _ _ L ord W h ho)
  have HWK := Lib.hid (fun W => hwakes_any W)
  obtain ⟨R, hR⟩ : ∃ R, R = (ckB L && tryL L 0 [] ord) := ⟨_, rfl⟩
  obtain ⟨E, hE⟩ : ∃ E, E = fitsE L := ⟨_, rfl⟩
  rw [← hR, ← hE] at HT1 HT2
  clear hR hE h ho
  have HB : Hid (Below w.heap.size w w) := Lib.hid (Below.refl _ _)
  by_cases k1 : 60 < n
  · skip
    have t1 : decide ((60 : Int) < (n : Int)) = true := decide_eq_true (by omega)
    go_enter Try.func5, Try.ntmps5
    go_wp2_with fail
    go_at_call 19
    go_fit (HWK.out _)
    rintro e W1 ⟨rfl, hB⟩
    replace HB := Lib.hid (HB.out.trans (hB.mono HB.out.size))
    replace HL := Lib.hid (HL0.out.below HB.out)
    replace HI := Lib.hid (HI0.out.below HB.out)
    clear hB
    go_wp2_with fail
    go_ret
    exact ⟨rfl, HB.out⟩
  have t1 : decide ((60 : Int) < (n : Int)) = false := decide_eq_false (by omega)
  by_cases k2 : 60 < iN
  · skip
    have t2 : decide ((60 : Int) < (iN : Int)) = true := decide_eq_true (by omega)
    go_enter Try.func5, Try.ntmps5
    go_wp2_with fail
    go_at_call 19
    go_fit (HWK.out _)
    rintro e W1 ⟨rfl, hB⟩
    replace HB := Lib.hid (HB.out.trans (hB.mono HB.out.size))
    replace HL := Lib.hid (HL0.out.below HB.out)
    replace HI := Lib.hid (HI0.out.below HB.out)
    clear hB
    go_wp2_with fail
    go_ret
    exact ⟨rfl, HB.out⟩
  have t2 : decide ((60 : Int) < (iN : Int)) = false := decide_eq_false (by omega)
  go_enter Try.func5, Try.ntmps5
  go_wp2_with fail
  go_at_call 25
  go_fit (HT1.out _ HL.out HI.out)
  rintro e W1 ⟨rfl, hB⟩
  replace HB := Lib.hid (HB.out.trans (hB.mono HB.out.size))
  replace HL := Lib.hid (HL0.out.below HB.out)
  replace HI := Lib.hid (HI0.out.below HB.out)
  clear hB
  go_wp2_with fail
  go_at_call 26
  go_fit (HT2.out _ HL.out HI.out)
  rintro e W2 ⟨rfl, hB⟩
  replace HB := Lib.hid (HB.out.trans (hB.mono HB.out.size))
  replace HL := Lib.hid (HL0.out.below HB.out)
  replace HI := Lib.hid (HI0.out.below HB.out)
  clear hB
  have hcc : ∀ W, (binOp .eql 4 (.bool R) (.bool R)).run Try.prog W = .ok (.bool true) W := fun W => by cases R <;> rfl
  go_wp2_with fail
  go_at_call 19
  go_fit (HWK.out _)
  rintro e W3 ⟨rfl, hB⟩
  replace HB := Lib.hid (HB.out.trans (hB.mono HB.out.size))
  replace HL := Lib.hid (HL0.out.below HB.out)
  replace HI := Lib.hid (HI0.out.below HB.out)
  clear hB
  go_wp2_with fail
  go_ret
  exact ⟨rfl, HB.out⟩
theorem historyTries_dt (a : Option Addr) (n c : Nat) (xs : List Dt) (a2 : Option Addr) (n2 c2 : Nat) (xs2 : List Dt) (w : World) (h : SliceFits Try.prog w 67 a n c xs) (h2 : SliceFits Try.prog w 3 a2 n2 c2 xs2) : Calls Try.prog 5 #[.slice a n c, .slice a2 n2 c2] w fun e w' => e = .returned (.bool true) ∧ Below w.heap.size w w' := by
  obtain ⟨L, _, hL⟩ := cav_cells w h
  obtain ⟨O, _, hO⟩ := inv_cells w h2
  exact historyTries_walk _ _ L O w hL hO
end Go.Proofs.Ythmjlomlceljkaa
