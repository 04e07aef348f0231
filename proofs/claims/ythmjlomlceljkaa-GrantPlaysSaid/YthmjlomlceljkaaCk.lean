/-
  Package clock: what it reckons, and the document's answers beside it.
-/
import Derived.Test.YthmjlomlceljkaaProg
import Derived.Test.YthmjlomlceljkaaLib
import Derived.Outline
import Derived.IntWalk
import Derived.Lib.Hide
import Derived.Deep.QuietTactic
import Derived.BigQuiet
namespace Go.Proofs.Ythmjlomlceljkaa
open Go.RowKit
set_option linter.unusedSimpArgs false
set_option linter.unusedVariables false

theorem cret_int {k : IntKind} {a b : Int} (h : a = b) : Ending.returned (.int k a) = .returned (.int k b) := by rw [h]
theorem belowN {B : Nat} {w w' : World} (h : Below B w w') (n : Nat) : Below B w (w'.drewN n) := ⟨h.os, h.tape, h.output, h.size, h.block⟩
theorem quietQ {P : Program} {f : FuncId} {args : Array Value} {w : World} {n : Nat} {v : Value}
    (h : Calls P f args (w.drewN n) fun e w' => e = .returned v ∧ w.drewN n = w') : Calls P f args (w.drewN n) fun e w'' => e = .returned v ∧ ∃ m, w'' = w.drewN m :=
  h.mono fun _ _ ⟨he, hm⟩ => ⟨he, n, hm.symm⟩

def cwithin (n least most : Int) : Int := min (max n least) most
def driftS (rho : Int) : Int := cwithin rho 0 200
def surelyS (m rho : Int) : Int := cwithin m 0 1125899906842624 / (1000 + driftS rho)
/-- n / d, rounded up -/
def upS (n d : Int) : Int := (n + d - 1) / d
def overS (ticks rho : Int) : Int := upS (cwithin ticks 0 1099511627776 * (1000 * (1000 + driftS rho))) (1000 - driftS rho)

theorem cwithin_bd (n most : Int) (h : 0 ≤ most) : 0 ≤ cwithin n 0 most ∧ cwithin n 0 most ≤ most := by unfold cwithin; omega
theorem driftS_bd (rho : Int) : 0 ≤ driftS rho ∧ driftS rho ≤ 200 := cwithin_bd _ _ (by omega)

theorem upS_eq (n d : Int) (hd : 0 < d) : upS n d = n / d + if 0 < n % d then 1 else 0 := by
  unfold upS
  have h1 := Int.emod_nonneg n (by omega : d ≠ 0)
  have h2 := Int.emod_lt_of_pos n hd
  have h3 : n + d - 1 = (n % d + d - 1) + d * (n / d) := by have := Int.emod_add_mul_ediv n d; omega
  rw [h3, Int.add_mul_ediv_left _ _ (by omega), Int.add_comm]
  congr 1
  split
  · have : n % d + d - 1 = (n % d - 1) + d * 1 := by omega
    rw [this, Int.add_mul_ediv_left _ _ (by omega), Int.ediv_eq_zero_of_lt (by omega) (by omega)]
    rfl
  · rw [Int.ediv_eq_zero_of_lt (by omega) (by omega)]

theorem upS_parts (t n d : Int) (hd : 0 < d) : t / d * n + (t % d * n + d - 1) / d = upS (t * n) d := by
  unfold upS
  have h3 : t * n + d - 1 = (t % d * n + d - 1) + d * (t / d * n) := by
    have h := Int.emod_add_mul_ediv t d
    have e : t * n = (t % d + d * (t / d)) * n := by rw [h]
    rw [e, Int.add_mul, Int.mul_assoc]; omega
  rw [h3, Int.add_mul_ediv_left _ _ (by omega)]
  omega

set_option maxHeartbeats 400000 in
theorem cwithin_any (n least most : Int) (w : World) : Calls Try.prog 60 #[.int .i64 n, .int .i64 least, .int .i64 most] w fun e w' => e = .returned (.int .i64 (cwithin n least most)) ∧ w = w' := by
  go_enter Try.func60, Try.ntmps60
  go_wp2_with fail
  all_goals
    go_ret
    exact ⟨cret_int (by unfold cwithin; omega), rfl⟩
set_option maxHeartbeats 400000 in
theorem drift_any (n : Int) (w : World) : Calls Try.prog 59 #[.int .i64 n] w fun e w' => e = .returned (.int .i64 (driftS n)) ∧ w = w' := by
  go_enter Try.func59, Try.ntmps59
  go_wp2_with (refine (cwithin_any _ _ _ _).mono ?_; rintro e w' ⟨rfl, rfl⟩)
  go_ret
  exact ⟨rfl, rfl⟩
set_option maxHeartbeats 400000 in
theorem rate_any (n : Int) (w : World) : Calls Try.prog 66 #[.int .i64 n] w fun e w' => e = .returned (.int .i64 (driftS n)) ∧ w = w' := by
  go_enter Try.func66, Try.ntmps66
  go_wp2_with fail
  all_goals
    go_ret
    exact ⟨cret_int (by unfold driftS cwithin; omega), rfl⟩
theorem over1_any (a b : Int) (h0 : 0 ≤ a) (h1 : a ≤ 4611686018427387904) (w : World) : Calls Try.prog 61 #[.int .u64 a, .int .u64 b] w fun e w' => e = .returned (.int .u64 (a + if 0 < b then 1 else 0)) ∧ w = w' := by
  go_enter Try.func61, Try.ntmps61
  go_wp2
  all_goals
    go_ret
    exact ⟨cret_int (by first | rfl | (split <;> omega)), rfl⟩

theorem up_bd {N d : Int} (h0 : 0 ≤ N) (hd : 1 ≤ d) : 0 ≤ upS N d ∧ upS N d ≤ N := by
  rw [upS_eq N d (by omega)]
  have h1 := Int.emod_nonneg N (by omega : d ≠ 0)
  have h2 := Int.ediv_nonneg h0 (by omega : 0 ≤ d)
  have h3 := Int.ediv_mul_le N (by omega : d ≠ 0)
  have h4 := Int.emod_add_mul_ediv N d
  have h5 : N / d ≤ d * (N / d) := by
    have := Int.mul_le_mul_of_nonneg_right hd h2
    rwa [Int.one_mul] at this
  split <;> omega

set_option maxRecDepth 100000 in
set_option maxHeartbeats 1000000 in
theorem whole_o (t n d : Int) (t0 : 0 ≤ t) (t1 : t ≤ 1099511627776) (n0 : 0 ≤ n) (n1 : n ≤ 1200000) (d0 : 800 ≤ d) (d1 : d ≤ 1000) (w : World) :
    Calls Try.prog 62 #[.agg #[.int .i64 t, .int .i64 n, .int .i64 d, .func (.func 61) #[] #[]]] w fun e w' => e = .returned (.int .i64 (upS (t * n) d)) ∧ Below w.heap.size w w' := by
  obtain ⟨N, hN⟩ : ∃ N, N = t * n := ⟨_, rfl⟩
  have hN0 : 0 ≤ N := by rw [hN]; exact Int.mul_nonneg t0 n0
  have hN1 : N ≤ 1319413953331200000 := by rw [hN]; exact Int.le_trans (Int.mul_le_mul t1 n1 n0 (by omega)) (by omega)
  have hw : IntKind.u64.wrap (t * n) = N := by rw [← hN]; exact IntWalk.u64_in _ (by omega)
  have hq0 := Int.ediv_nonneg hN0 (by omega : 0 ≤ d)
  have hq1 : N / d ≤ 1319413953331200000 := Int.le_trans (Int.ediv_le_self _ hN0) hN1
  have hr0 := Int.emod_nonneg N (by omega : d ≠ 0)
  have hr1 := Int.emod_lt_of_pos N (by omega : 0 < d)
  have Hup := Lib.hid (upS_eq N d (by omega))
  obtain ⟨u0, u1⟩ := up_bd hN0 (by omega : 1 ≤ d)
  have k1 : IntKind.u64.wrap (N.tdiv d) = N / d := IntWalk.u64_quo _ _ ⟨hN0, by omega, by omega⟩
  have k2 : N.tmod d = N % d := IntWalk.rem_in _ _ hN0
  have k3 : IntKind.u64.wrap (N % d) = N % d := IntWalk.u64_in _ (by omega)
  have d2 : (d == 0) = false := by simp; omega
  have d3 : ¬ d = 0 := by omega
  have hk4 : (N / d + if 0 < N % d then 1 else 0) = upS N d := Hup.out.symm
  have k5 : IntKind.i64.wrap (upS N d) = upS N d := IntWalk.i64_in _ (by omega)
  rw [← hN]
  have HN := Lib.hid hN
  have K4 := Lib.hid hk4
  clear hN hk4
  go_enter Try.func62, Try.ntmps62
  go_wp2_with fail
  go_quiet ((go_at_call 61; exact quietQ ((over1_any _ _ hq0 (by omega) _).mono fun e w' h => ⟨h.1.trans (cret_int K4.out), h.2⟩)))
  go_wp2
  go_ret
  exact ⟨rfl, belowN ((Below.refl _ _).alloc (Nat.le_refl _) _) _⟩

set_option maxRecDepth 100000 in
set_option maxHeartbeats 1000000 in
theorem over_any (t rho : Int) (w : World) : Calls Try.prog 30 #[.int .i64 t, .int .i64 rho] w fun e w' => e = .returned (.int .i64 (overS t rho)) ∧ Below w.heap.size w w' := by
  obtain ⟨h1, h2⟩ := driftS_bd rho
  obtain ⟨h3, h4⟩ := cwithin_bd t 1099511627776 (by omega)
  have Hs : Hid (upS (cwithin t 0 1099511627776 * (1000 * (1000 + driftS rho))) (1000 - driftS rho) = overS t rho) := Lib.hid rfl
  go_enter Try.func30, Try.ntmps30
  go_wp2_with (first
    | (go_at_call 60; refine (cwithin_any _ _ _ _).mono ?_; rintro e w' ⟨rfl, rfl⟩)
    | (go_at_call 59; refine (drift_any _ _).mono ?_; rintro e w' ⟨rfl, rfl⟩)
    | (go_at_call 62; refine (whole_o _ _ _ h3 h4 (by omega) (by omega) (by omega) (by omega) _).mono ?_; rintro e w1 ⟨rfl, hB1⟩))
  go_ret
  exact ⟨cret_int Hs.out, hB1⟩

theorem rover_facts (T N d : Int) (t0 : 0 ≤ T) (t1 : T ≤ 1099511627776) (n0 : 0 ≤ N) (n1 : N ≤ 1200000) (d0 : 800 ≤ d) (d1 : d ≤ 1000) :
    0 ≤ T / d * N ∧ T / d * N ≤ 1319413953331200000 ∧ 0 ≤ T % d * N ∧ T % d * N ≤ 1200000000 ∧ 0 ≤ (T % d * N + d - 1) / d ∧ (T % d * N + d - 1) / d ≤ 1200001000 := by
  have h1 := Int.ediv_nonneg t0 (by omega : 0 ≤ d)
  have h2 : T / d ≤ 1099511627776 := Int.le_trans (Int.ediv_le_self _ t0) t1
  have h3 := Int.emod_nonneg T (by omega : d ≠ 0)
  have h4 := Int.emod_lt_of_pos T (by omega : 0 < d)
  have h5 := Int.mul_nonneg h3 n0
  have h6 : T % d * N ≤ 1000 * 1200000 := Int.mul_le_mul (by omega) n1 n0 (by omega)
  have h7 := Int.ediv_nonneg (by omega : 0 ≤ T % d * N + d - 1) (by omega : 0 ≤ d)
  have h8 := Int.ediv_le_self d (by omega : 0 ≤ T % d * N + d - 1)
  exact ⟨Int.mul_nonneg h1 n0, Int.le_trans (Int.mul_le_mul h2 n1 n0 (by omega)) (by omega), h5, by omega, h7, by omega⟩

theorem over_fin {t rho x : Int} (T : Int) (hT : cwithin t 0 1099511627776 = T) (hx : x = T / (1000 - driftS rho) * (1000 * (1000 + driftS rho)) + (T % (1000 - driftS rho) * (1000 * (1000 + driftS rho)) + (1000 - driftS rho) - 1) / (1000 - driftS rho)) : x = overS t rho := by
  have := driftS_bd rho
  rw [hx, upS_parts _ _ _ (by omega)]
  unfold overS
  rw [hT]

set_option maxRecDepth 100000 in
set_option maxHeartbeats 1000000 in
theorem rover_any (t rho : Int) (w : World) : Calls Try.prog 38 #[.int .i64 t, .int .i64 rho] w fun e w' => e = .returned (.int .i64 (overS t rho)) ∧ w = w' := by
  obtain ⟨h1, h2⟩ := driftS_bd rho
  rcases (show t < 0 ∨ (0 ≤ t ∧ t ≤ 1099511627776) ∨ (0 ≤ t ∧ 1099511627776 < t) by omega) with ht | ⟨ht1, ht2⟩ | ⟨ht, ht2⟩
  · have HT : Hid (cwithin t 0 1099511627776 = 0) := Lib.hid (by unfold cwithin; omega)
    obtain ⟨p1, p2, p3, p4, p5, p6⟩ := rover_facts 0 (1000 * (1000 + driftS rho)) (1000 - driftS rho) (by omega) (by omega) (by omega) (by omega) (by omega) (by omega)
    go_enter Try.func38, Try.ntmps38
    go_wp2_with (refine (rate_any _ _).mono ?_; rintro e w' ⟨rfl, rfl⟩)
    go_ret
    refine ⟨cret_int (over_fin 0 HT.out ?_), rfl⟩
    simp
    rw [Int.ediv_eq_zero_of_lt (by omega) (by omega)]
    exact IntWalk.wrap64_in _ (by omega)
  · have HT : Hid (cwithin t 0 1099511627776 = t) := Lib.hid (by unfold cwithin; omega)
    obtain ⟨p1, p2, p3, p4, p5, p6⟩ := rover_facts t (1000 * (1000 + driftS rho)) (1000 - driftS rho) (by omega) (by omega) (by omega) (by omega) (by omega) (by omega)
    go_enter Try.func38, Try.ntmps38
    go_wp2_with (refine (rate_any _ _).mono ?_; rintro e w' ⟨rfl, rfl⟩)
    go_ret
    refine ⟨cret_int (over_fin t HT.out ?_), rfl⟩
    first | rfl | simp
  · have HT : Hid (cwithin t 0 1099511627776 = 1099511627776) := Lib.hid (by unfold cwithin; omega)
    obtain ⟨p1, p2, p3, p4, p5, p6⟩ := rover_facts 1099511627776 (1000 * (1000 + driftS rho)) (1000 - driftS rho) (by omega) (by omega) (by omega) (by omega) (by omega) (by omega)
    go_enter Try.func38, Try.ntmps38
    go_wp2_with (refine (rate_any _ _).mono ?_; rintro e w' ⟨rfl, rfl⟩)
    go_ret
    refine ⟨cret_int (over_fin 1099511627776 HT.out ?_), rfl⟩
    first | rfl | simp
end Go.Proofs.Ythmjlomlceljkaa
