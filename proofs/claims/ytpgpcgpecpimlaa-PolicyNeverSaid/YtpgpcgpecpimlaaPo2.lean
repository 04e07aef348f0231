/-
  May a tenant be; may a row of them.
-/
import Derived.Test.YtpgpcgpecpimlaaPo1
namespace Go.Proofs.Ytpgpcgpecpimlaa
open Go.RowKit
set_option linter.unusedSimpArgs false
set_option linter.unusedVariables false

def preM (x : TnE) : Nat → Prop
  | 0 => True
  | 1 => idB x.id = true ∧ True
  | 2 => idB x.id = true ∧ mayB x.rate x.burst = true ∧ True
  | 3 => idB x.id = true ∧ mayB x.rate x.burst = true ∧ fullB x = true ∧ True
  | _ => idB x.id = true ∧ mayB x.rate x.burst = true ∧ fullB x = true ∧ zeroB x = true ∧ True
set_option maxRecDepth 100000 in
set_option maxHeartbeats 4000000 in
theorem mayT_any (x : TnE) (w : World) : Calls Try.prog 86 #[x.agg] w fun e w' => e = .returned (.bool (mayT x)) ∧ Below w.heap.size w w' := by
  obtain ⟨N, hN⟩ : ∃ N, N = w.heap.size := ⟨_, rfl⟩
  obtain ⟨W1, hW1⟩ : ∃ W1, W1 = (w.alloc (.cells #[.int .i64 x.id, .int .i64 x.rate, .int .i64 x.burst, .int .i64 x.bkt, .bool x.gone] 72)).alloc (.cells #[.func (.func 101) #[] #[.pointer (some ⟨N, 0, none⟩)], .func (.func 102) #[] #[.pointer (some ⟨N, 0, none⟩)], .func (.func 103) #[] #[.pointer (some ⟨N, 0, none⟩)], .func (.func 104) #[] #[.pointer (some ⟨N, 0, none⟩)]] 26) := ⟨_, rfl⟩
  have hB1 : Below w.heap.size w W1 := by rw [hW1]; exact ((Below.refl _ _).alloc (Nat.le_refl _) _).alloc (by simp) _
  have HK : Hid (Blk W1 N x.arr 72) := Lib.hid (by rw [hW1, hN]; exact (blk_new _ _ _).alloc _)
  have hf : Blk W1 (N + 1) #[.func (.func 101) #[] #[.pointer (some ⟨N, 0, none⟩)], .func (.func 102) #[] #[.pointer (some ⟨N, 0, none⟩)], .func (.func 103) #[] #[.pointer (some ⟨N, 0, none⟩)], .func (.func 104) #[] #[.pointer (some ⟨N, 0, none⟩)]] 26 := by
    have := blk_new (w.alloc (.cells #[.int .i64 x.id, .int .i64 x.rate, .int .i64 x.burst, .int .i64 x.bkt, .bool x.gone] 72)) #[.func (.func 101) #[] #[.pointer (some ⟨N, 0, none⟩)], .func (.func 102) #[] #[.pointer (some ⟨N, 0, none⟩)], .func (.func 103) #[] #[.pointer (some ⟨N, 0, none⟩)], .func (.func 104) #[] #[.pointer (some ⟨N, 0, none⟩)]] 26
    rw [World.size_alloc] at this
    rw [hW1, hN]
    rw [← hN]
    rw [← hN] at this
    exact this
  have HF := Lib.hid hf
  have HB1 := Lib.hid hB1
  clear hB1 hf
  unfold TnE.agg
  go_enter Try.func86, Try.ntmps86
  go_upto_region 2 with fail
  rw [← hN, ← hW1]
  clear hW1 hN
  go_loopw [11] (fun i wr => ∃ k : Nat, k ≤ 4 ∧ i = .int .i64 k ∧ preM x k ∧ Below W1.heap.size W1 wr) (fun i _ => 4 - (intOf i).toNat)
  case atStart => exact ⟨0, Nat.zero_le _, rfl, trivial, Below.refl _ _⟩
  case round =>
    obtain ⟨k, hk, rfl, hT, hB⟩ := hrel
    have HT := Lib.hid hT
    have HB := Lib.hid hB
    clear hT hB
    obtain rfl | rfl | rfl | rfl | rfl : k = 0 ∨ k = 1 ∨ k = 2 ∨ k = 3 ∨ k = 4 := by omega
    · have f0 : wr.cell? ⟨N + 1, 0, none⟩ = some (.func (.func 101) #[] #[.pointer (some ⟨N, 0, none⟩)]) := cell_at (HF.out.step HB.out) 0
      have MC := Lib.hid (may1_any x N wr (HK.out.step HB.out))
      obtain ⟨C, hC⟩ : ∃ C, C = idB x.id := ⟨_, rfl⟩
      rw [← hC] at MC
      have HC := Lib.hid hC
      clear hC
      cases C
      · go_wp2_with (go_at_call 101; refine Calls.mono MC.out ?_; rintro e w' ⟨rfl, rfl⟩)
        go_ret
        refine ⟨ret_bool (by unfold mayT; rw [← HC.out]; simp), HB1.out.trans (HB.out.mono HB1.out.size)⟩
      · go_wp2_with (go_at_call 101; refine Calls.mono MC.out ?_; rintro e w' ⟨rfl, rfl⟩)
        go_roundw
        case rel => exact ⟨1, by omega, rfl, ⟨HC.out.symm, trivial⟩, HB.out⟩
        case measure => simp [intOf]
    · have f0 : wr.cell? ⟨N + 1, 1, none⟩ = some (.func (.func 102) #[] #[.pointer (some ⟨N, 0, none⟩)]) := cell_at (HF.out.step HB.out) 1
      have MC := Lib.hid (may2_any x N wr (HK.out.step HB.out))
      obtain ⟨C, hC⟩ : ∃ C, C = mayB x.rate x.burst := ⟨_, rfl⟩
      rw [← hC] at MC
      have HC := Lib.hid hC
      clear hC
      cases C
      · go_wp2_with (go_at_call 102; refine Calls.mono MC.out ?_; rintro e w' ⟨rfl, rfl⟩)
        go_ret
        refine ⟨ret_bool (by unfold mayT; rw [HT.out.1, ← HC.out]; simp), HB1.out.trans (HB.out.mono HB1.out.size)⟩
      · go_wp2_with (go_at_call 102; refine Calls.mono MC.out ?_; rintro e w' ⟨rfl, rfl⟩)
        go_roundw
        case rel => exact ⟨2, by omega, rfl, ⟨HT.out.1, HC.out.symm, trivial⟩, HB.out⟩
        case measure => simp [intOf]
    · have f0 : wr.cell? ⟨N + 1, 2, none⟩ = some (.func (.func 103) #[] #[.pointer (some ⟨N, 0, none⟩)]) := cell_at (HF.out.step HB.out) 2
      have MC := Lib.hid (may3_any x N wr (HK.out.step HB.out))
      obtain ⟨C, hC⟩ : ∃ C, C = fullB x := ⟨_, rfl⟩
      rw [← hC] at MC
      have HC := Lib.hid hC
      clear hC
      cases C
      · go_wp2_with (go_at_call 103; refine Calls.mono MC.out ?_; rintro e w' ⟨rfl, hB2⟩)
        go_ret
        refine ⟨ret_bool (by unfold mayT; rw [HT.out.1, HT.out.2.1, ← HC.out]; simp), HB1.out.trans ((HB.out.trans (hB2.mono HB.out.size)).mono HB1.out.size)⟩
      · go_wp2_with (go_at_call 103; refine Calls.mono MC.out ?_; rintro e w' ⟨rfl, hB2⟩)
        go_roundw
        case rel => exact ⟨3, by omega, rfl, ⟨HT.out.1, HT.out.2.1, HC.out.symm, trivial⟩, HB.out.trans (hB2.mono HB.out.size)⟩
        case measure => simp [intOf]
    · have f0 : wr.cell? ⟨N + 1, 3, none⟩ = some (.func (.func 104) #[] #[.pointer (some ⟨N, 0, none⟩)]) := cell_at (HF.out.step HB.out) 3
      have MC := Lib.hid (may4_any x N wr (HK.out.step HB.out))
      obtain ⟨C, hC⟩ : ∃ C, C = zeroB x := ⟨_, rfl⟩
      rw [← hC] at MC
      have HC := Lib.hid hC
      clear hC
      cases C
      · go_wp2_with (go_at_call 104; refine Calls.mono MC.out ?_; rintro e w' ⟨rfl, hB2⟩)
        go_ret
        refine ⟨ret_bool (by unfold mayT; rw [HT.out.1, HT.out.2.1, HT.out.2.2.1, ← HC.out]; simp), HB1.out.trans ((HB.out.trans (hB2.mono HB.out.size)).mono HB1.out.size)⟩
      · go_wp2_with (go_at_call 104; refine Calls.mono MC.out ?_; rintro e w' ⟨rfl, hB2⟩)
        go_roundw
        case rel => exact ⟨4, by omega, rfl, ⟨HT.out.1, HT.out.2.1, HT.out.2.2.1, HC.out.symm, trivial⟩, HB.out.trans (hB2.mono HB.out.size)⟩
        case measure => simp [intOf]
    · go_wp2_with fail
      go_ret
      refine ⟨ret_bool (by unfold mayT; rw [HT.out.1, HT.out.2.1, HT.out.2.2.1, HT.out.2.2.2.1]; rfl), HB1.out.trans (HB.out.mono HB1.out.size)⟩
end Go.Proofs.Ytpgpcgpecpimlaa
