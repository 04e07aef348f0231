/-
  Shares: what is granted of a bucket; the program's and the document's.
-/
import Derived.Test.YthmjlomlceljkaaLib2
import Derived.Test.YthmjlomlceljkaaBl
import Derived.Test.YthmjlomlceljkaaCk
namespace Go.Proofs.Ythmjlomlceljkaa
open Go.RowKit
set_option linter.unusedSimpArgs false
set_option linter.unusedVariables false

/-- how much, of the three bounds -/
def shareN (W M S : Int) : Int := min W (min M S)
def shareU (b o : Int) : Int := (max b 0 / 1000 + min (max o 0) 8) / (min (max o 0) 8 + 1)
def shareS (b w o l m : Int) : Int := if shareN (max w 0) (max m 0) (shareU b o) < l ∧ shareN (max w 0) (max m 0) (shareU b o) < max w 0 then 0 else shareN (max w 0) (max m 0) (shareU b o)

theorem up1_any (n d : Int) (n0 : 0 ≤ n) (n1 : n ≤ 4611686018427387904) (d0 : 1 ≤ d) (d1 : d ≤ 9) (w : World) : Calls Try.prog 58 #[.int .i64 n, .int .i64 d] w fun e w' => e = .returned (.int .i64 ((n + (d - 1)) / d)) ∧ w = w' := by
  have k1 : IntKind.i64.wrap (n + d) = n + d := IntWalk.i64_in _ (by omega)
  have k2 : IntKind.i64.wrap (n + d - 1) = n + d - 1 := IntWalk.i64_in _ (by omega)
  have k3 : IntKind.i64.wrap ((n + d - 1).tdiv d) = (n + d - 1) / d := IntWalk.i64_quo _ _ ⟨by omega, by omega, by omega⟩
  have d2 : (d == 0) = false := by simp; omega
  have d3 : ¬ d = 0 := by omega
  have k4 : (n + d - 1) / d = (n + (d - 1)) / d := by rw [Int.add_sub_assoc]
  rw [← k4]
  clear k4
  go_enter Try.func58, Try.ntmps58
  go_wp2
  go_ret
  exact ⟨rfl, rfl⟩

set_option maxRecDepth 100000 in
set_option maxHeartbeats 1000000 in
theorem share_any (b wt o l m : Int) (b0 : -9223372036854775808 ≤ b) (b1 : b ≤ 9223372036854775807) (w : World) : Calls Try.prog 29 #[.int .i64 b, .int .i64 wt, .int .i64 o, .int .i64 l, .int .i64 m] w fun e w' => e = .returned (.int .i64 (shareS b wt o l m)) ∧ w = w' := by
  obtain ⟨B, hB⟩ : ∃ B, B = max b 0 := ⟨_, rfl⟩
  obtain ⟨W, hW⟩ : ∃ W, W = max wt 0 := ⟨_, rfl⟩
  obtain ⟨M, hM⟩ : ∃ M, M = max m 0 := ⟨_, rfl⟩
  obtain ⟨O, hO⟩ : ∃ O, O = max o 0 := ⟨_, rfl⟩
  obtain ⟨k, hk⟩ : ∃ k, k = min O 8 := ⟨_, rfl⟩
  have HR : Hid (shareS b wt o l m = if shareN W M ((B / 1000 + k) / (k + 1)) < l ∧ shareN W M ((B / 1000 + k) / (k + 1)) < W then 0 else shareN W M ((B / 1000 + k) / (k + 1))) := Lib.hid (by rw [hB, hW, hM, hk, hO]; rfl)
  have e1 : (if b < 0 then 0 else b) = B := by rw [hB]; split <;> omega
  have e2 : (if wt < 0 then 0 else wt) = W := by rw [hW]; split <;> omega
  have e3 : (if m < 0 then 0 else m) = M := by rw [hM]; split <;> omega
  have e4 : (if o < 0 then 0 else o) = O := by rw [hO]; split <;> omega
  have e5 : (if 8 < O then 8 else O) = k := by rw [hk]; split <;> omega
  have f1 : max b 0 = B := hB.symm
  have f2 : max wt 0 = W := hW.symm
  have f3 : max m 0 = M := hM.symm
  have f4 : max o 0 = O := hO.symm
  have f5 : min O 8 = k := hk.symm
  have b2 : 0 ≤ B ∧ B ≤ 9223372036854775807 := by omega
  have k0 : 0 ≤ k ∧ k ≤ 8 := by omega
  have q1 : IntKind.i64.wrap (B.tdiv 1000) = B / 1000 := IntWalk.i64_quo _ _ ⟨by omega, by omega, by omega⟩
  obtain ⟨A, hA⟩ : ∃ A, A = B / 1000 := ⟨_, rfl⟩
  have a2 : 0 ≤ A ∧ A ≤ 9223372036854776 := by omega
  rw [← hA] at q1 HR
  have q2 : IntKind.i64.wrap (k + 1) = k + 1 := IntWalk.i64_in _ (by omega)
  have UP := Lib.hid (fun w => up1_any A (k + 1) a2.1 (by omega) (by omega) (by omega) w)
  rw [show k + 1 - 1 = k by omega] at UP
  obtain ⟨S, hS⟩ : ∃ S, S = (A + k) / (k + 1) := ⟨_, rfl⟩
  rw [← hS] at UP HR
  obtain ⟨R, hR⟩ : ∃ R, R = shareS b wt o l m := ⟨_, rfl⟩
  rw [← hR] at HR ⊢
  clear hB hW hM hO hk hA hS hR
  go_enter Try.func29, Try.ntmps29
  go_wp2_with fail
  go_at_call 58
  refine Calls.mono (UP.out _) ?_
  rintro e w' ⟨rfl, rfl⟩
  go_wp2_with fail
  all_goals
    go_ret
    refine ⟨cret_int ?_, rfl⟩
    have hr := HR.out
    unfold shareN at hr
    split at hr <;> omega

end Go.Proofs.Ythmjlomlceljkaa
