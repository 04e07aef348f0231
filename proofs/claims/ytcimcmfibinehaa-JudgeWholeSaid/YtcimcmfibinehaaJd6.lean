/-
  Package judge: Out; weirref30.Out.
-/
import Derived.IntWalk
import Derived.Test.YtcimcmfibinehaaJd5
namespace Go.Proofs.Ytcimcmfibinehaa
open Go.RowKit
set_option linter.unusedSimpArgs false
set_option linter.unusedVariables false

set_option maxRecDepth 100000 in
set_option maxHeartbeats 8000000 in
theorem out_any (T s t : Int) (a : Option Addr) (n c b o : Nat) (L : Nat → SentE) (w : World) (hs : SentIn w a n c b o L) (hch : chkS L n = true) (hn : n ≤ 60) :
    Calls Try.prog 9 #[.slice a n c, .int .i64 T, .int .i64 s, .int .i64 t] w fun e w' => e = .returned (.int .i64 (outS L T s t n)) ∧ Below w.heap.size w w' := by
  have hm := hs.max
  have hl := hs.le
  unfold maxLen at hm
  have HS := Lib.hid hs
  have HC := Lib.hid hch
  obtain ⟨WY, hWY⟩ : ∃ WY, WY = ((w.alloc (.cells #[.int .i64 T] 3)).alloc (.cells #[.int .i64 s] 3)).alloc (.cells #[.int .i64 t] 3) := ⟨_, rfl⟩
  have hT := tw3 (n := w.heap.size) (Below.refl _ (((w.alloc (.cells #[.int .i64 T] 3)).alloc (.cells #[.int .i64 s] 3)).alloc (.cells #[.int .i64 t] 3))) rfl
  rw [← hWY] at hT
  have hB : Below w.heap.size w WY := by rw [hWY]; exact (((Below.refl _ _).alloc (Nat.le_refl _) _).alloc (by simp) _).alloc (by simp; omega) _
  have HT := Lib.hid hT
  have HB := Lib.hid hB
  have HW := Lib.hid hWY
  clear hs hch hT hB hWY
  go_enter Try.func9, Try.ntmps9
  go_wp2_with fail
  rw [← HW.out]
  go_at_call 22
  refine (of_any w.heap.size (w.heap.size + 1) (w.heap.size + 1 + 1) T s t a n c b o L WY (HS.out.below HB.out) HC.out hn (HT.out.1.1 0) (HT.out.2.1.1 0) (HT.out.2.2.1 0) HT.out.1.2.2 HT.out.2.1.2.2 HT.out.2.2.2.2).mono ?_
  rintro e W1 ⟨rfl, hB1⟩
  have HB1 := Lib.hid (HB.out.trans (hB1.mono HB.out.size))
  clear hB1
  go_wp2_with fail
  go_ret
  exact ⟨rfl, HB1.out⟩

end Go.Proofs.Ytcimcmfibinehaa
