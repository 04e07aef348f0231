/-
  slices.Concat of two rows of bytes.
-/
import Derived.Test.YtcimcmfibinehaaPk8
namespace Go.Proofs.Ytcimcmfibinehaa
open Go.RowKit
set_option linter.unusedSimpArgs false
set_option linter.unusedVariables false

def cN (n m k : Nat) : Nat := if k = 0 then 0 else if k = 1 then n else n + m
theorem rowV_left (X Y : Nat → Nat) (n : Nat) : rowV (putB X n Y) n = rowV X n := by
  refine List.ext_getElem? fun j => ?_
  by_cases h : j < n
  · rw [rowV_at _ _ _ h, rowV_at _ _ _ h, putB, if_pos h]
  · rw [List.getElem?_eq_none (by rw [rowV_len]; omega), List.getElem?_eq_none (by rw [rowV_len]; omega)]

set_option maxRecDepth 100000 in
set_option maxHeartbeats 8000000 in
theorem concat2_any (g cg : Nat) (a : Option Addr) (n c b o : Nat) (X : Nat → Nat) (a' : Option Addr) (m c' b' o' : Nat) (Y : Nat → Nat) (w : World) (hg : g < w.heap.size) (hcg : 2 ≤ cg) (hcg2 : cg ≤ 5000)
    (g0 : w.cell? ⟨g, 0, none⟩ = some (.slice a n c)) (g1 : w.cell? ⟨g, 1, none⟩ = some (.slice a' m c')) (h1 : ByIn w a n c b o X) (h2 : ByIn w a' m c' b' o' Y) (hn : 0 < n) (hnm : n + m ≤ 5000) :
    Calls Try.prog 31 #[.slice (some ⟨g, 0, none⟩) 2 cg] w fun e w' => ∃ v ob, e = .returned v ∧ Row w' v (some ob) 5 1 (n + m) (rowV (putB X n Y) (n + m)) ∧ w.heap.size ≤ ob ∧ Below w.heap.size w w' := by
  obtain ⟨i0, hi, hz0, hz1, hz2⟩ := info_parts infoU8'
  have HI := Lib.hid hi
  have HZ0 := Lib.hid hz0
  have HZ1 := Lib.hid hz1
  have HZ2 := Lib.hid hz2
  have hm := h1.max
  have hl := h1.le
  have hm' := h2.max
  have hl' := h2.le
  unfold maxLen at hm hm'
  have HA := Lib.hid h1
  have HB := Lib.hid h2
  have HG0 := Lib.hid g0
  have HG1 := Lib.hid g1
  have HGR := Lib.hid (grow_nil (n + m))
  clear h1 h2 g0 g1 hi hz0 hz1 hz2
  go_enter Try.func31, Try.ntmps31
  go_wp2_with fail
  go_loopw [3, 11] (fun s i wr => ∃ k : Nat, k ≤ 2 ∧ i = .int .i64 k ∧ s = .int .i64 (cN n m k : Nat) ∧ Below w.heap.size w wr) (fun _ i _ => 2 - (intOf i).toNat)
  case atStart => exact ⟨0, by omega, rfl, rfl, Below.refl _ _⟩
  case round =>
    obtain ⟨k, hk, rfl, rfl, hB⟩ := hrel
    have HBB := Lib.hid hB
    clear hB
    have k0 := (HBB.out.cell (p := ⟨g, 0, none⟩) hg).trans HG0.out
    have k1 := (HBB.out.cell (p := ⟨g, 1, none⟩) hg).trans HG1.out
    have hk3 : k = 0 ∨ k = 1 ∨ k = 2 := by omega
    rcases hk3 with rfl | rfl | rfl
    · have e0 : cN n m 0 = 0 := rfl
      rw [e0]
      go_wp2_with fail
      go_roundw
      case rel => exact ⟨1, by omega, rfl, by simp [cN], HBB.out⟩
      case measure => simp [intOf]
    · have e0 : cN n m 1 = n := rfl
      rw [e0]
      have d0 : decide ((n : Int) + m < 0) = false := by simp; omega
      go_wp2_with fail
      go_roundw
      case rel => exact ⟨2, by omega, rfl, by simp [cN], HBB.out⟩
      case measure => simp [intOf]
    · have e0 : cN n m 2 = n + m := rfl
      rw [e0]
      go_wp2_with fail
      go_at_call 34
      refine (HGR.out _ (by omega) (by omega)).mono ?_
      rintro e W2 ⟨v, ob, rfl, hr, hob, hB2⟩
      have HR := Lib.hid hr
      have HOB : Hid (w.heap.size ≤ ob) := Lib.hid (Nat.le_trans HBB.out.size hob)
      have HB2 := Lib.hid (HBB.out.trans (hB2.mono HBB.out.size))
      clear hr hob hB2 k0 k1
      go_wp2_with fail
      go_loopw [6, 27] (fun v i wr => ∃ (k ob : Nat), k ≤ 2 ∧ i = .int .i64 k ∧ Row wr v (some ob) 5 1 (cN n m k) (rowV (putB X n Y) (cN n m k)) ∧ w.heap.size ≤ ob ∧ Below w.heap.size w wr) (fun _ i _ => 2 - (intOf i).toNat)
      case atStart => exact ⟨0, ob, by omega, rfl, HR.out, HOB.out, HB2.out⟩
      case round =>
        clear HR HOB HB2
        obtain ⟨k, ob, hk, rfl, hr, hob, hB⟩ := hrel
        obtain ⟨av, cv, hv, hcv1, hcv2, hav⟩ := hr.shape
        clear hav
        subst hv
        unfold maxLen at hcv2
        have HR := Lib.hid hr
        have HOB := Lib.hid hob
        have HB3 := Lib.hid hB
        have k0 := (hB.cell (p := ⟨g, 0, none⟩) hg).trans HG0.out
        have k1 := (hB.cell (p := ⟨g, 1, none⟩) hg).trans HG1.out
        clear hr hob hB
        have hk3 : k = 0 ∨ k = 1 ∨ k = 2 := by omega
        rcases hk3 with rfl | rfl | rfl
        · have z0 : cN n m 0 = 0 := rfl
          rw [z0] at hcv1 ⊢
          have HRz : Hid (Row wr (.slice av 0 cv) (some ob) 5 1 0 (rowV X 0)) := Lib.hid HR.out
          obtain ⟨e0, e1⟩ := HA.out.at_ hn
          subst e0
          have hb8 : (0 + (n : Int)) * 1 ≤ 140737488355328 := by omega
          go_wp2_with (at_builtin; refine wpList_append_row _ rfl (.tmp 31) (.tmp 32) 26 rfl 5 i0 _ 1 1 Try.underlying26 HI.out HZ0.out HZ1.out HZ2.out rfl (by decide) _ (some ob) 0 (rowV X 0) rfl HRz.out ⟨b, o, none⟩ n c (rowV X n) rfl hn (by rw [rowV_len, Nat.mul_one]) ?c1 (rowV_one X n) ?c3 ?c4 ?_)
          case c1 =>
            intro j u hu
            have hj : j < n := by have := (List.getElem?_eq_some_iff.1 hu).1; rwa [rowV_len] at this
            rw [rowV_at X n j hj] at hu
            obtain rfl := Option.some.inj hu
            first | exact (HA.out.below HB3.out).cell j hj | (rw [addr_add]; exact (HA.out.below HB3.out).cell j hj)
          case c3 => unfold maxLen; omega
          case c4 => omega
          intro v' ob' W3 hrow3 hg3 hob3
          have hz9 := HB3.out.size
          have hob' : w.heap.size ≤ ob' := by
            rcases hob3 with h | h
            · first | (rw [← h]; exact HOB.out) | (obtain rfl := Option.some.inj h; exact HOB.out)
            · omega
          have HB4 : Hid (Below w.heap.size w W3) := Lib.hid (HB3.out.grown hg3 (by omega) (fun g e => by obtain rfl := Option.some.inj e; exact HOB.out))
          have HR4 : Hid (Row W3 v' (some ob') 5 1 n (rowV X n)) := Lib.hid (by first | exact hrow3 | (rw [Nat.zero_add] at hrow3; exact hrow3))
          have HO4 := Lib.hid hob'
          clear hrow3 hg3 hob3 hob'
          go_wp2_with fail
          go_roundw
          case rel => exact ⟨1, ob', by omega, rfl, by show Row _ _ _ _ 1 n (rowV (putB X n Y) n); rw [rowV_left]; exact HR4.out, HO4.out, HB4.out⟩
          case measure => simp [intOf]
        · have z0 : cN n m 1 = n := rfl
          rw [z0] at hcv1 ⊢
          have HRn : Hid (Row wr (.slice av n cv) (some ob) 5 1 n (rowV X n)) := Lib.hid (by rw [← rowV_left X Y n]; exact HR.out)
          by_cases hm0 : m = 0
          · have HM0 := Lib.hid hm0
            clear hm0
            go_wp2_with (at_builtin; refine wpList_append_row_zero _ rfl (.tmp 31) (.tmp 32) 26 rfl 5 i0 1 Try.underlying26 HI.out _ (some ob) n (rowV X n) rfl HRn.out a' c' (show Value.slice a' m c' = .slice a' 0 c' by rw [HM0.out]) ?_)
            go_wp2_with fail
            go_roundw
            case rel => exact ⟨2, ob, by omega, rfl, by show Row _ _ _ _ 1 (n + m) (rowV (putB X n Y) (n + m)); rw [HM0.out, Nat.add_zero, rowV_left]; exact HRn.out, HOB.out, HB3.out⟩
            case measure => simp [intOf]
          · obtain ⟨e0, e1⟩ := HB.out.at_ (by omega)
            subst e0
            have hb8 : ((n : Int) + (m : Int)) * 1 ≤ 140737488355328 := by omega
            go_wp2_with (at_builtin; refine wpList_append_row _ rfl (.tmp 31) (.tmp 32) 26 rfl 5 i0 _ 1 1 Try.underlying26 HI.out HZ0.out HZ1.out HZ2.out rfl (by decide) _ (some ob) n (rowV X n) rfl HRn.out ⟨b', o', none⟩ m c' (rowV Y m) rfl (by omega) (by rw [rowV_len, Nat.mul_one]) ?c1 (rowV_one Y m) ?c3 ?c4 ?_)
            case c1 =>
              intro j u hu
              have hj : j < m := by have := (List.getElem?_eq_some_iff.1 hu).1; rwa [rowV_len] at this
              rw [rowV_at Y m j hj] at hu
              obtain rfl := Option.some.inj hu
              first | exact (HB.out.below HB3.out).cell j hj | (rw [addr_add]; exact (HB.out.below HB3.out).cell j hj)
            case c3 => unfold maxLen; omega
            case c4 => omega
            intro v' ob' W3 hrow3 hg3 hob3
            have hz9 := HB3.out.size
            have hob' : w.heap.size ≤ ob' := by
              rcases hob3 with h | h
              · first | (rw [← h]; exact HOB.out) | (obtain rfl := Option.some.inj h; exact HOB.out)
              · omega
            have HB4 : Hid (Below w.heap.size w W3) := Lib.hid (HB3.out.grown hg3 (by omega) (fun g e => by obtain rfl := Option.some.inj e; exact HOB.out))
            have HR4 : Hid (Row W3 v' (some ob') 5 1 (n + m) (rowV (putB X n Y) (n + m))) := Lib.hid (by rw [rowV_put]; exact hrow3)
            have HO4 := Lib.hid hob'
            clear hrow3 hg3 hob3 hob'
            go_wp2_with fail
            go_roundw
            case rel => exact ⟨2, ob', by omega, rfl, HR4.out, HO4.out, HB4.out⟩
            case measure => simp [intOf]
        · have z0 : cN n m 2 = n + m := rfl
          rw [z0] at hcv1 ⊢
          go_wp2_with fail
          go_ret
          exact ⟨_, ob, rfl, HR.out, HOB.out, HB3.out⟩
end Go.Proofs.Ytcimcmfibinehaa
