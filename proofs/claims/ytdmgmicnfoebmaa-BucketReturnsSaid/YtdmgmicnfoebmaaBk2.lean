/-
  Package bucket: its closures, credits and what comes back; the document's answers beside them.
-/
import Derived.Test.YtdmgmicnfoebmaaBk
namespace Go.Proofs.Ytdmgmicnfoebmaa
open Go.RowKit

set_option maxHeartbeats 400000 in
theorem through_two (b r1 r2 : Int) (g f1 f2 : Nat) (c1 c2 : Array Value) (w : World)
    (hg : w.heap[g]? = some (.cells #[.func (.func f1) #[] c1, .func (.func f2) #[] c2] 65 (0, 0)))
    (hc1 : ∀ args w, (callFunc f1 args).run Try.prog w = .ok (.enter f1 args) w) (hc2 : ∀ args w, (callFunc f2 args).run Try.prog w = .ok (.enter f2 args) w)
    (h1 : Calls Try.prog f1 (#[.int .i64 b] ++ c1) w fun e w' => e = .returned (.int .i64 r1) ∧ w = w')
    (h2 : Calls Try.prog f2 (#[.int .i64 r1] ++ c2) w fun e w' => e = .returned (.int .i64 r2) ∧ w = w') :
    Calls Try.prog 61 #[.int .i64 b, .slice (some ⟨g, 0, none⟩) 2 2] w fun e w' => e = .returned (.int .i64 r2) ∧ w = w' := by
  have g0 : w.cell? ⟨g, 0, none⟩ = some (.func (.func f1) #[] c1) := cell_of_row w g 0 _ _ _ hg
  have g1 : w.cell? ⟨g, 1, none⟩ = some (.func (.func f2) #[] c2) := cell_of_row w g 1 _ _ _ hg
  have H1 := Lib.hid h1
  have H2 := Lib.hid h2
  clear h1 h2 hg
  go_enter Try.func61, Try.ntmps61
  go_wp2_with fail
  go_loop [0, 9] (fun v i => (v = .int .i64 b ∧ i = .int .i64 (0 : Nat)) ∨ (v = .int .i64 r1 ∧ i = .int .i64 (1 : Nat)) ∨ (v = .int .i64 r2 ∧ i = .int .i64 (2 : Nat))) (fun _ i => 2 - (intOf i).toNat)
  case atStart => exact .inl ⟨rfl, rfl⟩
  case round =>
    rcases hrel with ⟨rfl, rfl⟩ | ⟨rfl, rfl⟩ | ⟨rfl, rfl⟩
    · go_wp2_with (refine (H1.out).mono ?_; rintro e w' ⟨rfl, rfl⟩)
      go_round
      case rel => exact .inr (.inl ⟨rfl, rfl⟩)
      case measure => simp [intOf]
    · go_wp2_with (refine (H2.out).mono ?_; rintro e w' ⟨rfl, rfl⟩)
      go_round
      case rel => exact .inr (.inr ⟨rfl, rfl⟩)
      case measure => simp [intOf]
    · go_wp2_with fail
      go_ret
      exact ⟨rfl, rfl⟩

def moreS (b n : Int) : Int := min (max b 0 + n) 9223372036854775807

set_option maxHeartbeats 400000 in
theorem more_any (b n : Int) (hb : b ≤ 9223372036854775807) (h0 : 0 ≤ n) (h1 : n ≤ 2305843009213693952) (w : World) :
    Calls Try.prog 63 #[.int .i64 b, .int .u64 n] w fun e w' => e = .returned (.int .i64 (moreS b n)) ∧ w = w' := by
  go_enter Try.func63, Try.ntmps63
  go_wp2_with fail
  all_goals
    go_ret
    exact ⟨ret_int (by unfold moreS; omega), rfl⟩

set_option maxHeartbeats 400000 in
theorem cut_any (b burst out : Int) (ho : out ≤ 9223372036854775807) (w : World) :
    Calls Try.prog 41 #[.int .i64 b, .int .i64 burst, .int .i64 out] w fun e w' => e = .returned (.int .i64 (cut b burst out)) ∧ w = w' := by
  go_enter Try.func41, Try.ntmps41
  go_wp2_with (first
    | (go_at_call 39; refine (room_any _ _ ho _).mono ?_; rintro e w' ⟨rfl, rfl⟩)
    | (go_at_call 60; refine (within_any _ _ _).mono ?_; rintro e w' ⟨rfl, rfl⟩))
  go_ret
  exact ⟨rfl, rfl⟩

set_option maxHeartbeats 400000 in
theorem rcut_any (b burst out : Int) (ho : out ≤ 9223372036854775807) (w : World) :
    Calls Try.prog 42 #[.int .i64 b, .int .i64 burst, .int .i64 out] w fun e w' => e = .returned (.int .i64 (cut b burst out)) ∧ w = w' := by
  go_enter Try.func42, Try.ntmps42
  go_wp2_with (refine (rroom_any _ _ ho _).mono ?_; rintro e w' ⟨rfl, rfl⟩)
  all_goals
    go_ret
    exact ⟨ret_int (by unfold cut within; omega), rfl⟩

set_option maxHeartbeats 400000 in
theorem credit1_any (b n : Int) (a : Addr) (w : World) (hb : b ≤ 9223372036854775807) (h0 : 0 ≤ n) (h1 : n ≤ 2305843009213693952) (ha : w.cell? a = some (.int .u64 n)) :
    Calls Try.prog 62 #[.int .i64 b, .pointer (some a)] w fun e w' => e = .returned (.int .i64 (moreS b n)) ∧ w = w' := by
  go_enter Try.func62, Try.ntmps62
  go_wp2_with (refine (more_any _ _ hb h0 h1 _).mono ?_; rintro e w' ⟨rfl, rfl⟩)
  go_ret
  exact ⟨rfl, rfl⟩
set_option maxHeartbeats 400000 in
theorem back1_any (b n : Int) (a : Addr) (w : World) (hb : b ≤ 9223372036854775807) (h0 : 0 ≤ n) (h1 : n ≤ 2305843009213693952) (ha : w.cell? a = some (.int .u64 n)) :
    Calls Try.prog 65 #[.int .i64 b, .pointer (some a)] w fun e w' => e = .returned (.int .i64 (moreS b n)) ∧ w = w' := by
  go_enter Try.func65, Try.ntmps65
  go_wp2_with (refine (more_any _ _ hb h0 h1 _).mono ?_; rintro e w' ⟨rfl, rfl⟩)
  go_ret
  exact ⟨rfl, rfl⟩
set_option maxHeartbeats 400000 in
theorem credit2_any (b burst out : Int) (a c : Addr) (w : World) (ho : out ≤ 9223372036854775807) (ha : w.cell? a = some (.int .i64 burst)) (hc : w.cell? c = some (.int .i64 out)) :
    Calls Try.prog 64 #[.int .i64 b, .pointer (some a), .pointer (some c)] w fun e w' => e = .returned (.int .i64 (cut b burst out)) ∧ w = w' := by
  go_enter Try.func64, Try.ntmps64
  go_wp2_with (refine (cut_any _ _ _ ho _).mono ?_; rintro e w' ⟨rfl, rfl⟩)
  go_ret
  exact ⟨rfl, rfl⟩
set_option maxHeartbeats 400000 in
theorem back2_any (b burst out : Int) (a c : Addr) (w : World) (ho : out ≤ 9223372036854775807) (ha : w.cell? a = some (.int .i64 burst)) (hc : w.cell? c = some (.int .i64 out)) :
    Calls Try.prog 66 #[.int .i64 b, .pointer (some a), .pointer (some c)] w fun e w' => e = .returned (.int .i64 (cut b burst out)) ∧ w = w' := by
  go_enter Try.func66, Try.ntmps66
  go_wp2_with (refine (cut_any _ _ _ ho _).mono ?_; rintro e w' ⟨rfl, rfl⟩)
  go_ret
  exact ⟨rfl, rfl⟩

def creditS (b rate burst out ticks : Int) : Int := cut (max b 0 + within rate 1000000 * within ticks 1099511627776) burst out
def backS (b burst out size : Int) : Int := cut (max b 0 + 1000 * within size 1000000) burst out

theorem prod_bd (rate ticks : Int) : 0 ≤ within rate 1000000 * within ticks 1099511627776 ∧ within rate 1000000 * within ticks 1099511627776 ≤ 1099511627776000000 := by
  have h1 := within_bd rate 1000000 (by omega)
  have h2 := within_bd ticks 1099511627776 (by omega)
  exact ⟨Int.mul_nonneg h1.1 h2.1, Int.le_trans (Int.mul_le_mul h1.2 h2.2 h2.1 (by omega)) (by omega)⟩
theorem cut_more (b n burst out : Int) (h0 : 0 ≤ n) : cut (moreS b n) burst out = cut (max b 0 + n) burst out := by
  have := room_bd burst out
  unfold cut within moreS; omega

set_option maxHeartbeats 1000000 in
theorem credit_any (b rate burst out ticks : Int) (hb : b ≤ 9223372036854775807) (ho : out ≤ 9223372036854775807) (w : World) : Calls Try.prog 48 #[.int .i64 b, .int .i64 rate, .int .i64 burst, .int .i64 out, .int .i64 ticks] w fun e w' => e = .returned (.int .i64 (creditS b rate burst out ticks)) ∧ Below w.heap.size w w' := by
  have h1 := within_bd rate 1000000 (by omega)
  have h2 := within_bd ticks 1099511627776 (by omega)
  have h3 := prod_bd rate ticks
  have h4 : IntKind.u64.wrap (within rate 1000000 * within ticks 1099511627776) = within rate 1000000 * within ticks 1099511627776 := IntWalk.u64_in _ (by omega)
  have hfin : creditS b rate burst out ticks = cut (moreS b (within rate 1000000 * within ticks 1099511627776)) burst out := (cut_more _ _ _ _ h3.1).symm
  have Hfin := Lib.hid hfin
  clear hfin
  go_enter Try.func48, Try.ntmps48
  go_wp2_with ( (go_at_call 60; refine (within_any _ _ _).mono ?_; rintro e w' ⟨rfl, rfl⟩))
  clear h4
  refine (through_two b (moreS b (within rate 1000000 * within ticks 1099511627776)) (cut (moreS b (within rate 1000000 * within ticks 1099511627776)) burst out) (w.heap.size + 1 + 1 + 1) 62 64 #[.pointer (some ⟨w.heap.size + 1 + 1, 0, none⟩)] #[.pointer (some ⟨w.heap.size, 0, none⟩), .pointer (some ⟨w.heap.size + 1, 0, none⟩)] _ ?_ (fun _ _ => rfl) (fun _ _ => rfl) ?_ ?_).mono ?_
  · refine Eq.trans (congrArg (fun k => _root_.GetElem?.getElem? _ k) ?_) (heap_alloc_new _ _)
    simp
  · refine credit1_any _ _ _ _ hb h3.1 (by omega) ?_
    go_simp
  · refine credit2_any _ _ _ _ _ _ ho ?_ ?_
    · go_simp
    · go_simp
  · rintro e w' ⟨rfl, rfl⟩
    go_wp2
    go_ret
    exact ⟨ret_int Hfin.out.symm, ((((Below.refl _ _).alloc (Nat.le_refl _) _).alloc (by simp) _).alloc (by simp; omega) _).alloc (by simp; omega) _⟩
end Go.Proofs.Ytdmgmicnfoebmaa
