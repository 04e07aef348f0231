/-
  Air's wakes.
-/
import Derived.Test.YtokhdpokcfkfpaaAi7
namespace Go.Proofs.Ytokhdpokcfkfpaa
open Go.RowKit
set_option linter.unusedSimpArgs false
set_option linter.unusedVariables false

set_option maxRecDepth 100000 in
set_option maxHeartbeats 16000000 in
theorem airwakes_any (w : World) : Calls Try.prog 8 #[] w fun e w' => e = .returned (.bool true) ∧ Below w.heap.size w w' := by
  obtain ⟨b, hb⟩ : ∃ b, b = w.heap.size := ⟨_, rfl⟩
  have NW := airNew_any w
  rw [← hb] at NW
  have HNW := Lib.hid NW
  have HGW := Lib.hid hb
  clear NW hb
  go_enter Try.func8, Try.ntmps8
  go_wp2_with fail
  go_at_call 9
  refine Calls.mono HNW.out ?_
  rintro e W1 ⟨rfl, h1, hw1⟩
  have H1 := Lib.hid h1
  have HB1 : Hid (Below w.heap.size w W1) := Lib.hid (by rw [HGW.out] at hw1; exact hw1)
  clear h1 hw1 HNW
  have S1 := send_ok (b + 1) b none _ [] _ ⟨1, 2, 7, 0, 0, 0, 0, false, 0, 0, 0⟩ W1 H1.out (by simp) rfl
  have HS1 := Lib.hid S1
  clear S1
  go_wp2_with fail
  go_at_call 13
  refine Calls.mono HS1.out ?_
  rintro e W2 ⟨rfl, ob2, v2, h2, hf2, ho2⟩
  have S2 := send_ok (b + 1) b (some ob2) v2 _ _ ⟨2, 1, 0, 0, 0, 0, 0, false, 0, 0, 0⟩ W2 h2 (by simp) rfl
  have HS2 := Lib.hid S2
  have HB2 := Lib.hid (HB1.out.trans (hf2.below HB1.out.size (by have := HGW.out; simp; omega)))
  have HO2 : Hid (w.heap.size ≤ ob2) := Lib.hid (by
    have := HB1.out.size
    rcases ho2 with e | e
    · exact nomatch e
    · omega)
  clear S2 h2 hf2 ho2 HS1 HB1 H1
  go_wp2_with fail
  go_at_call 13
  refine Calls.mono HS2.out ?_
  rintro e W3 ⟨rfl, ob3, v3, h3, hf3, ho3⟩
  have S3 := double_ok (b + 1) b (some ob3) v3 _ _ 0 ⟨1, 2, 7, 0, 0, 0, 0, false, 0, 0, 0⟩ W3 h3 (by simp) rfl
  have HS3 := Lib.hid S3
  have HB3 := Lib.hid (HB2.out.trans (hf3.below HB2.out.size (by have := HGW.out; have := HO2.out; simp; omega)))
  have HO3 : Hid (w.heap.size ≤ ob3) := Lib.hid (by
    have := HB2.out.size
    have := HO2.out
    rcases ho3 with e | e
    · obtain rfl := Option.some.inj e; exact this
    · omega)
  clear S3 h3 hf3 ho3 HS2 HB2 HO2
  go_wp2_with fail
  go_at_call 14
  refine Calls.mono HS3.out ?_
  rintro e W4 ⟨rfl, ob4, v4, h4, hf4, ho4⟩
  have S4 := cut_any (b + 1) b (some ob4) v4 _ _ 1 2 W4 h4
  simp only [show wayB 1 2 = true from rfl, if_true] at S4
  have HS4 := Lib.hid S4
  have HB4 := Lib.hid (HB3.out.trans (hf4.below HB3.out.size (by have := HGW.out; have := HO3.out; simp; omega)))
  have HO4 : Hid (w.heap.size ≤ ob4) := Lib.hid (by
    have := HB3.out.size
    have := HO3.out
    rcases ho4 with e | e
    · obtain rfl := Option.some.inj e; exact this
    · omega)
  clear S4 h4 hf4 ho4 HS3 HB3 HO3
  go_wp2_with fail
  go_at_call 19
  refine Calls.mono HS4.out ?_
  rintro e W5 ⟨rfl, h5, hf5⟩
  have S5 := deliver_ok (b + 1) b (some ob4) v4 _ _ 0 ⟨1, 2, 7, 0, 0, 0, 0, false, 0, 0, 0⟩ W5 h5 rfl rfl
  have HS5 := Lib.hid S5
  have HB5 := Lib.hid (HB4.out.trans (hf5.below HB4.out.size (by have := HGW.out; simp; omega)))
  clear S5 h5 hf5 HS4 HB4
  go_wp2_with fail
  go_at_call 17
  refine Calls.mono HS5.out ?_
  rintro e W6 ⟨rfl, v6, h6, hf6⟩
  simp only [if_true, Option.isSome_some, Bool.not_true]
  have hB67 : Below W6.heap.size W6 (W6.alloc (.cells #[.int .i8 0, .int .i64 1, .int .i64 2, .int .i64 7, .int .i64 0, .int .i64 0, .int .i64 0, .bool false, .slice none 0 0, .int .i64 0, .int .i64 0, .int .u8 0, .slice none 0 0, .slice none 0 0] 39)) := (Below.refl _ _).alloc (Nat.le_refl _) _
  have S6 := airLen_any (b + 1) b (some ob4) v6 _ _ _ (h6.below hB67)
  have HS6 := Lib.hid S6
  have HB6 := Lib.hid (HB5.out.trans (hf6.below HB5.out.size (by have := HGW.out; have := HO4.out; simp; omega)))
  have HB7 := Lib.hid (HB6.out.trans (hB67.mono HB6.out.size))
  clear S6 h6 hf6 HS5 HB5 hB67 HB6
  go_wp2_with fail
  go_at_call 11
  refine Calls.mono HS6.out ?_
  rintro e w' ⟨rfl, rfl⟩
  go_wp2_with fail
  go_ret
  exact ⟨rfl, HB7.out⟩
end Go.Proofs.Ytokhdpokcfkfpaa
