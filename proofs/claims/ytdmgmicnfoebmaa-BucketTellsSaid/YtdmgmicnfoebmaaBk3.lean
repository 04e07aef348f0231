/-
  Package bucket: what comes back, takes; the document's answers; the example that the document names.
-/
import Derived.Test.YtdmgmicnfoebmaaBk2
namespace Go.Proofs.Ytdmgmicnfoebmaa
open Go.RowKit

theorem back_bd (size : Int) : 0 ≤ 1000 * within size 1000000 ∧ 1000 * within size 1000000 ≤ 1000000000 := by unfold within; omega

set_option maxHeartbeats 1000000 in
theorem back_any (b burst out size : Int) (hb : b ≤ 9223372036854775807) (ho : out ≤ 9223372036854775807) (w : World) : Calls Try.prog 50 #[.int .i64 b, .int .i64 burst, .int .i64 out, .int .i64 size] w fun e w' => e = .returned (.int .i64 (backS b burst out size)) ∧ Below w.heap.size w w' := by
  have h1 := within_bd size 1000000 (by omega)
  have h3 := back_bd size
  have hfin : backS b burst out size = cut (moreS b (1000 * within size 1000000)) burst out := (cut_more _ _ _ _ h3.1).symm
  have Hfin := Lib.hid hfin
  clear hfin
  go_enter Try.func50, Try.ntmps50
  go_wp2_with ( (go_at_call 60; refine (within_any _ _ _).mono ?_; rintro e w' ⟨rfl, rfl⟩))
  refine (through_two b (moreS b (1000 * within size 1000000)) (cut (moreS b (1000 * within size 1000000)) burst out) (w.heap.size + 1 + 1 + 1) 65 66 #[.pointer (some ⟨w.heap.size + 1 + 1, 0, none⟩)] #[.pointer (some ⟨w.heap.size, 0, none⟩), .pointer (some ⟨w.heap.size + 1, 0, none⟩)] _ ?_ (fun _ _ => rfl) (fun _ _ => rfl) ?_ ?_).mono ?_
  · refine Eq.trans (congrArg (fun k => _root_.GetElem?.getElem? _ k) ?_) (heap_alloc_new _ _)
    simp
  · refine back1_any _ _ _ _ hb h3.1 (by omega) ?_
    go_simp
  · refine back2_any _ _ _ _ _ _ ho ?_ ?_
    · go_simp
    · go_simp
  · rintro e w' ⟨rfl, rfl⟩
    go_wp2
    go_ret
    exact ⟨ret_int Hfin.out.symm, ((((Below.refl _ _).alloc (Nat.le_refl _) _).alloc (by simp) _).alloc (by simp; omega) _).alloc (by simp; omega) _⟩

def wholeS (b : Int) : Int := max b 0 / 1000
def poorB (b size : Int) : Bool := decide (size < 0 ∨ wholeS b < size)
def takeV (b size : Int) : Int := if poorB b size then 0 else b - 1000 * size
def takeE (b size : Int) : Int := if poorB b size then 170 else 0

set_option maxHeartbeats 400000 in
theorem whole_any (b : Int) (hb : b ≤ 9223372036854775807) (w : World) : Calls Try.prog 43 #[.int .i64 b] w fun e w' => e = .returned (.int .i64 (wholeS b)) ∧ w = w' := by
  go_enter Try.func43, Try.ntmps43
  go_wp2_with fail
  all_goals
    go_ret
    exact ⟨ret_int (by unfold wholeS; omega), rfl⟩
set_option maxHeartbeats 400000 in
theorem rwhole_any (b : Int) (hb : b ≤ 9223372036854775807) (w : World) : Calls Try.prog 44 #[.int .i64 b] w fun e w' => e = .returned (.int .i64 (wholeS b)) ∧ w = w' := by
  go_enter Try.func44, Try.ntmps44
  go_wp2_with fail
  all_goals
    go_ret
    exact ⟨ret_int (by unfold wholeS; omega), rfl⟩

theorem poor_eq {b size : Int} (h : size < 0 ∨ wholeS b < size) : poorB b size = true := by unfold poorB; simpa using h
theorem rich_eq {b size : Int} (h : 0 ≤ size) (h2 : size ≤ wholeS b) : poorB b size = false := by unfold poorB; simp; omega
theorem take_poor {b size : Int} (h : poorB b size = true) : Ending.returned (.tuple #[.int .i64 0, .int .i64 170]) = Ending.returned (.tuple #[.int .i64 (takeV b size), .int .i64 (takeE b size)]) := by unfold takeV takeE; rw [h]; rfl
theorem take_rich {b size x : Int} (h : poorB b size = false) (hx : x = b - 1000 * size) : Ending.returned (.tuple #[.int .i64 x, .int .i64 0]) = Ending.returned (.tuple #[.int .i64 (takeV b size), .int .i64 (takeE b size)]) := by unfold takeV takeE; rw [h, hx]; rfl

set_option maxHeartbeats 400000 in
theorem take_any (b size : Int) (hb0 : -9223372036854775808 ≤ b) (hb : b ≤ 9223372036854775807) (w : World) : Calls Try.prog 46 #[.int .i64 b, .int .i64 size] w fun e w' => e = .returned (.tuple #[.int .i64 (takeV b size), .int .i64 (takeE b size)]) ∧ w = w' := by
  have hw : wholeS b = max b 0 / 1000 := rfl
  by_cases h0 : size < 0
  · have hp := poor_eq (b := b) (.inl h0)
    clear hw
    have Hp := Lib.hid hp
    clear hp
    go_enter Try.func46, Try.ntmps46
    go_wp2_with (refine (whole_any _ hb _).mono ?_; rintro e w' ⟨rfl, rfl⟩)
    go_ret2
    exact ⟨take_poor Hp.out, rfl⟩
  · have h0' : 0 ≤ size := by omega
    clear h0
    by_cases h1 : wholeS b < size
    · have Hp := Lib.hid (poor_eq (b := b) (.inr h1))
      clear hw
      go_enter Try.func46, Try.ntmps46
      go_wp2_with (refine (whole_any _ hb _).mono ?_; rintro e w' ⟨rfl, rfl⟩)
      go_ret2
      exact ⟨take_poor Hp.out, rfl⟩
    · have h1' : size ≤ wholeS b := by omega
      have Hp := Lib.hid (rich_eq h0' h1')
      have hs : -9223372036854775808 ≤ b - 1000 * size := by omega
      have hs2 : 1000 * size ≤ 9223372036854775807 := by omega
      clear h1 hw
      go_enter Try.func46, Try.ntmps46
      go_wp2_with (refine (whole_any _ hb _).mono ?_; rintro e w' ⟨rfl, rfl⟩)
      go_ret2
      exact ⟨take_rich Hp.out rfl, rfl⟩
set_option maxHeartbeats 400000 in
theorem rtake_any (b size : Int) (hb0 : -9223372036854775808 ≤ b) (hb : b ≤ 9223372036854775807) (w : World) : Calls Try.prog 47 #[.int .i64 b, .int .i64 size] w fun e w' => e = .returned (.tuple #[.int .i64 (takeV b size), .int .i64 (takeE b size)]) ∧ w = w' := by
  have hw : wholeS b = max b 0 / 1000 := rfl
  by_cases h0 : size < 0
  · have hp := poor_eq (b := b) (.inl h0)
    clear hw
    have Hp := Lib.hid hp
    clear hp
    go_enter Try.func47, Try.ntmps47
    go_wp2_with (refine (rwhole_any _ hb _).mono ?_; rintro e w' ⟨rfl, rfl⟩)
    go_ret2
    exact ⟨take_poor Hp.out, rfl⟩
  · have h0' : 0 ≤ size := by omega
    clear h0
    by_cases h1 : wholeS b < size
    · have Hp := Lib.hid (poor_eq (b := b) (.inr h1))
      clear hw
      go_enter Try.func47, Try.ntmps47
      go_wp2_with (refine (rwhole_any _ hb _).mono ?_; rintro e w' ⟨rfl, rfl⟩)
      go_ret2
      exact ⟨take_poor Hp.out, rfl⟩
    · have h1' : size ≤ wholeS b := by omega
      have Hp := Lib.hid (rich_eq h0' h1')
      have hs : -9223372036854775808 ≤ b - 1000 * size := by omega
      have hs2 : 1000 * size ≤ 9223372036854775807 := by omega
      clear h1 hw
      go_enter Try.func47, Try.ntmps47
      go_wp2_with (refine (rwhole_any _ hb _).mono ?_; rintro e w' ⟨rfl, rfl⟩)
      go_ret2
      exact ⟨take_rich Hp.out rfl, rfl⟩
end Go.Proofs.Ytdmgmicnfoebmaa
