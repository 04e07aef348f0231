/-
  What the document says of a lease of ten ticks.
-/
import Derived.Test.YtlgjdiadohhleaaAgb
import Derived.Test.YtlgjdiadohhleaaAg8
namespace Go.Proofs.Ytlgjdiadohhleaa
open Go.RowKit
set_option linter.unusedSimpArgs false
set_option linter.unusedVariables false

def sA : Ag := ⟨1, 1, 10000, 0, 0, false, 0, 0, 0, 0, 0⟩
def sB : Ag := ⟨1, 1, 10000, 1000, 1, true, 1, 1, 3, 60, 1000⟩
def sC : Ag := ⟨1, 1, 10000, 4000, 1, false, 1, 1, 3, 60, 1000⟩
def sD : Ag := ⟨1, 1, 10000, 10999, 1, false, 1, 1, 3, 60, 1000⟩
def sE : Ag := ⟨1, 1, 10000, 11000, 1, false, 1, 1, 3, 60, 1000⟩
def xA : Lz := ⟨7, 3, 50, 11000, 0, 0⟩
def xB : Lz := ⟨7, 3, 30, 11000, 20, 0⟩
def xC : Lz := ⟨7, 3, 30, 11000, 20, 20⟩
theorem wk_B : sA.ask 3 60 1000 = sB := by rfl
theorem wk_C : sB.told 4000 = sC := by rfl
theorem wk_D : sC.tick 10999 = sD := by rfl
theorem wk_DD : sD.tick 10999 = sD := by rfl
theorem wk_E : sD.tick 11000 = sE := by rfl
theorem wk_EE : sE.tick 11000 = sE := by rfl
theorem wk_k1 (b c : Nat) : Hd.tick (.one b c xA) sC 10999 = .one b c xA := by rfl
theorem wk_k2 (b c : Nat) : Hd.tick (.one b c xA) sD 10999 = .one b c xA := by rfl
theorem wk_k3 (b c : Nat) : Hd.tick (.one b c xB) sD 10999 = .one b c xB := by rfl
theorem wk_k4 (b c : Nat) : Hd.tick (.one b c xC) sD 10999 = .one b c xC := by rfl
theorem wk_k5 (b c : Nat) : Hd.tick (.one b c xC) sD 11000 = .gone (some ⟨b, 0, none⟩) c := by rfl

set_option maxRecDepth 100000 in
set_option maxHeartbeats 16000000 in
theorem agwakes_any (w : World) : Calls Try.prog 23 #[] w fun e w' => e = .returned (.bool true) ∧ Below w.heap.size w w' := by
  obtain ⟨g, hg⟩ : ∃ g, g = w.heap.size := ⟨_, rfl⟩
  have NW := agNew_ok 1 1 10 (by omega) (by omega) (by omega) w
  rw [← hg] at NW
  have HNW := Lib.hid NW
  have HGW := Lib.hid hg
  clear NW hg
  go_enter Try.func23, Try.ntmps23
  go_wp2_with fail
  go_at_call 24
  refine Calls.mono HNW.out ?_
  rintro e W1 ⟨rfl, h1, hw1⟩
  change AgAt W1 g sA (.gone none 0) at h1
  have AK := ask_ok g sA (.gone none 0) 3 60 1000 W1 h1 rfl (by omega) (by omega) (by omega) (by simp [sA])
  rw [wk_B] at AK
  simp only [cmdL] at AK
  have HAK := Lib.hid AK
  have HB1 : Hid (Below w.heap.size w W1) := Lib.hid (by rw [hw1]; exact (Below.refl _ _).alloc (Nat.le_refl _) _)
  clear h1 hw1 AK HNW
  go_wp2_with fail
  go_at_call 14
  refine Calls.mono HAK.out ?_
  rintro e W2 ⟨rfl, h2, hf⟩
  change AgAt W2 g sB (.gone none 0) at h2
  have HB2 := Lib.hid (HB1.out.trans (hf.below HB1.out.size (by have := HGW.out; simp [Hd.bl]; omega)))
  have HA2 := Lib.hid h2
  clear h2 hf HAK HB1
  go_upto_region 5 with fail
  obtain ⟨P, hP⟩ : ∃ P, P = W2.heap.size := ⟨_, rfl⟩
  obtain ⟨W3, hW3⟩ : ∃ W3, W3 = W2.alloc (.cells #[.int .i8 4, .int .i64 0, .int .i64 1, .int .i64 3, .int .i64 0, .int .i64 0, .int .i64 1, .int .i64 1, .int .i64 0, .int .i64 60, .int .i64 0, .bool false, .slice none 0 0] 31) := ⟨_, rfl⟩
  have HT3 : Hid (Blk W3 P #[.int .i8 4, .int .i64 0, .int .i64 1, .int .i64 3, .int .i64 0, .int .i64 0, .int .i64 1, .int .i64 1, .int .i64 0, .int .i64 60, .int .i64 0, .bool false, .slice none 0 0] 31) := Lib.hid (by rw [hW3, hP]; exact blk_new _ _ _)
  have hB23 : Below W2.heap.size W2 W3 := by rw [hW3]; exact (Below.refl _ _).alloc (Nat.le_refl _) _
  have h3 := HA2.out.below hB23
  have HB3 := Lib.hid (HB2.out.trans (hB23.mono HB2.out.size))
  have hgp : g < P := by rw [hP]; exact HA2.out.blk.lt
  have HGP := Lib.hid hgp
  have TD := told_ok g sB 4000 0 0 7 50 W3 h3 rfl (by omega) (by omega) (by simp [sB]) (by simp [sB]) (by simp [sB]) (by simp [sB]) (by simp [sB])
  have HTD := Lib.hid TD
  rw [← hP]
  change Code.wp _ _ _ _ (W2.alloc (.cells #[.int .i8 4, .int .i64 0, .int .i64 1, .int .i64 3, .int .i64 0, .int .i64 0, .int .i64 1, .int .i64 1, .int .i64 0, .int .i64 60, .int .i64 0, .bool false, .slice none 0 0] 31))
  rw [← hW3]
  clear hP hW3 hB23 h3 hgp TD HA2 HB2
  go_wp2_with fail
  go_at_call 17
  refine Calls.mono HTD.out ?_
  rintro e W4 ⟨hf, hcase⟩
  obtain ⟨_, b, c, rfl, h4, hb4⟩ | ⟨hno, _⟩ := hcase
  rotate_left
  · exact absurd hno (by decide)
  rw [wk_C] at h4
  change AgAt W4 g sC (.one b c xA) at h4
  have HG : Hid (g = w.heap.size ∧ g < P ∧ P < b) := Lib.hid ⟨HGW.out, HGP.out, by have := HT3.out.lt; omega⟩
  have HB4 := Lib.hid (HB3.out.trans (hf.below HB3.out.size (by have := HG.out; simp [Hd.bl]; omega)))
  have HT4 : Hid (Blk W4 P #[.int .i8 4, .int .i64 0, .int .i64 1, .int .i64 3, .int .i64 0, .int .i64 0, .int .i64 1, .int .i64 1, .int .i64 0, .int .i64 60, .int .i64 0, .bool false, .slice none 0 0] 31) := Lib.hid ((hf.block P HT3.out.lt (by have := HG.out; simp [Hd.bl]; omega)).trans HT3.out)
  have TK := tokens_any g sC (.one b c xA) 3 10999 W4 h4 (by simp [Hd.ok, xA])
  rw [wk_k1, wk_D] at TK
  have HTK := Lib.hid TK
  clear h4 hf hb4 TK HTD HB3 HT3
  go_wp2_with fail
  go_at_call 19
  refine Calls.mono HTK.out ?_
  rintro e W5 ⟨rfl, h5, hf⟩
  rw [show Hd.tok (.one b c xA) 3 = 50 from rfl]
  have HB5 := Lib.hid (HB4.out.trans (hf.below HB4.out.size (by have := HG.out; simp [Hd.bl]; omega)))
  have HT5 : Hid (Blk W5 P #[.int .i8 4, .int .i64 0, .int .i64 1, .int .i64 3, .int .i64 0, .int .i64 0, .int .i64 1, .int .i64 1, .int .i64 0, .int .i64 60, .int .i64 0, .bool false, .slice none 0 0] 31) := Lib.hid ((hf.block P HT4.out.lt (by have := HG.out; simp [Hd.bl]; omega)).trans HT4.out)
  have SP := spend_ok g sD (.one b c xA) 3 20 10999 W5 h5 (by simp [Hd.ok, xA]) (by omega) (by rw [wk_k2]; show (20 : Int) ≤ 50; omega) (by rw [wk_k2]; rfl)
  rw [wk_k2, wk_DD] at SP
  have HSP := Lib.hid SP
  clear h5 hf SP HTK HB4 HT4
  go_wp2_with fail
  go_at_call 18
  refine Calls.mono HSP.out ?_
  rintro e W6 ⟨rfl, h6, hf⟩
  change AgAt W6 g sD (.one b c xB) at h6
  have HB6 := Lib.hid (HB5.out.trans (hf.below HB5.out.size (by have := HG.out; simp [Hd.bl]; omega)))
  have HT6 : Hid (Blk W6 P #[.int .i8 4, .int .i64 0, .int .i64 1, .int .i64 3, .int .i64 0, .int .i64 0, .int .i64 1, .int .i64 1, .int .i64 0, .int .i64 60, .int .i64 0, .bool false, .slice none 0 0] 31) := Lib.hid ((hf.block P HT5.out.lt (by have := HG.out; simp [Hd.bl]; omega)).trans HT5.out)
  have RP := reports_any g sD (.one b c xB) 10999 W6 h6 (by simp [Hd.ok, xB])
  rw [wk_k3, wk_DD] at RP
  have HRP := Lib.hid RP
  have HZ6 : Hid (b < W6.heap.size) := Lib.hid h6.held.1.lt
  clear h6 hf RP HSP HB5 HT5
  go_wp2_with fail
  go_at_call 20
  refine Calls.mono HRP.out ?_
  rintro e W7 ⟨hc7, h7, hf⟩
  change AgAt W7 g sD (.one b c xC) at h7
  obtain ⟨r, kk, rfl, r1, r2, r3, r4⟩ := hc7
  have HB7 := Lib.hid (HB6.out.trans (hf.below HB6.out.size (by have := HG.out; simp [Hd.bl]; omega)))
  have HT7 : Hid (Blk W7 P #[.int .i8 4, .int .i64 0, .int .i64 1, .int .i64 3, .int .i64 0, .int .i64 0, .int .i64 1, .int .i64 1, .int .i64 0, .int .i64 60, .int .i64 0, .bool false, .slice none 0 0] 31) := Lib.hid ((hf.block P HT6.out.lt (by have := HG.out; simp [Hd.bl]; omega)).trans HT6.out)
  have HR7 := Lib.hid r4
  have HG0 := HG
  have HG : Hid (g = w.heap.size ∧ g < P ∧ P < b ∧ b < r) := Lib.hid ⟨HG0.out.1, HG0.out.2.1, HG0.out.2.2, by have := HZ6.out; omega⟩
  have RP := reports_any g sD (.one b c xC) 10999 W7 h7 (by simp [Hd.ok, xC])
  rw [wk_k4, wk_DD] at RP
  have HRP2 := Lib.hid RP
  clear h7 hf RP HRP HB6 HT6 r4 r3 HG0
  go_wp2_with fail
  go_at_call 20
  refine Calls.mono HRP2.out ?_
  rintro e W8 ⟨hc8, h8, hf⟩
  obtain rfl : e = .returned (.slice none 0 0) := hc8
  change AgAt W8 g sD (.one b c xC) at h8
  have HB8 := Lib.hid (HB7.out.trans (hf.below HB7.out.size (by have := HG.out; simp [Hd.bl]; omega)))
  have HT8 : Hid (Blk W8 P #[.int .i8 4, .int .i64 0, .int .i64 1, .int .i64 3, .int .i64 0, .int .i64 0, .int .i64 1, .int .i64 1, .int .i64 0, .int .i64 60, .int .i64 0, .bool false, .slice none 0 0] 31) := Lib.hid ((hf.block P HT7.out.lt (by have := HG.out; simp [Hd.bl]; omega)).trans HT7.out)
  have HR8 := Lib.hid (HR7.out.congr (w' := W8) (fun g' e => by obtain rfl := Option.some.inj e; exact hf.block _ HR7.out.lt (by have := HG.out; simp [Hd.bl]; omega)))
  have TK := tokens_any g sD (.one b c xC) 3 11000 W8 h8 (by simp [Hd.ok, xC])
  rw [wk_k5, wk_E] at TK
  have HTK := Lib.hid TK
  clear h8 hf TK HRP2 HB7 HT7 HR7
  go_wp2_with fail
  go_at_call 19
  refine Calls.mono HTK.out ?_
  rintro e W9 ⟨rfl, h9, hf⟩
  have HB9 := Lib.hid (HB8.out.trans (hf.below HB8.out.size (by have := HG.out; simp [Hd.bl]; omega)))
  have HT9 : Hid (Blk W9 P #[.int .i8 4, .int .i64 0, .int .i64 1, .int .i64 3, .int .i64 0, .int .i64 0, .int .i64 1, .int .i64 1, .int .i64 0, .int .i64 60, .int .i64 0, .bool false, .slice none 0 0] 31) := Lib.hid ((hf.block P HT8.out.lt (by have := HG.out; simp [Hd.bl]; omega)).trans HT8.out)
  have HR9 := Lib.hid (HR8.out.congr (w' := W9) (fun g' e => by obtain rfl := Option.some.inj e; exact hf.block _ HR8.out.lt (by have := HG.out; simp [Hd.bl]; omega)))
  have TS := told_stale g sE (.gone (some ⟨b, 0, none⟩) c) 1 1 11000 0 0 0 0 0 W9 h9 (.inl rfl)
  have HTS := Lib.hid TS
  clear h9 hf TS HTK HB8 HT8 HR8
  go_wp2_with fail
  go_at_call 17
  refine Calls.mono HTS.out ?_
  rintro e W10 ⟨rfl, h10, hf⟩
  have HB10 := Lib.hid (HB9.out.trans (hf.below HB9.out.size (by have := HG.out; simp [Hd.bl]; omega)))
  have HT10 : Hid (Blk W10 P #[.int .i8 4, .int .i64 0, .int .i64 1, .int .i64 3, .int .i64 0, .int .i64 0, .int .i64 1, .int .i64 1, .int .i64 0, .int .i64 60, .int .i64 0, .bool false, .slice none 0 0] 31) := Lib.hid ((hf.block P HT9.out.lt (by have := HG.out; simp [Hd.bl]; omega)).trans HT9.out)
  have HR10 := Lib.hid (HR9.out.congr (w' := W10) (fun g' e => by obtain rfl := Option.some.inj e; exact hf.block _ HR9.out.lt (by have := HG.out; simp [Hd.bl]; omega)))
  have t2 : W10.cell? ⟨P, 2, none⟩ = some (.int .i64 1) := cell_at HT10.out 2
  obtain ⟨_, er, q10, _⟩ := HR10.out.cell 10 (by omega)
  obtain rfl := Option.some.inj er
  have l10 : W10.cell? ⟨r, 10, none⟩ = some (.int .i64 20) := q10
  clear h10 hf HTS HB9 HT9 HR9 HT10 HR10 q10 er
  go_wp2_with fail
  go_ret
  exact ⟨rfl, HB10.out⟩
end Go.Proofs.Ytlgjdiadohhleaa
