/-
  Package clock: any step of a clock; rows of steps that came in.
-/
import Derived.Test.YtlgjdiadohhleaaCk3
import Derived.Test.YtlgjdiadohhleaaDt
namespace Go.Proofs.Ytlgjdiadohhleaa
open Go.RowKit
set_option linter.unusedSimpArgs false
set_option linter.unusedVariables false

/-- how a clock may stand -/
structure CkOk (now ticks rho : Int) : Prop where
  t0 : 0 ≤ ticks
  t1 : ticks ≤ 1099511627776
  r0 : 0 ≤ rho
  r1 : rho ≤ 200
  n0 : ticks * (1000 - rho) ≤ now
  n1 : now ≤ ticks * (1000 + rho)

theorem CkOk.bd {now ticks rho : Int} (h : CkOk now ticks rho) : 0 ≤ now ∧ now ≤ 1200 * ticks ∧ now ≤ 1319413953331200 := by
  obtain ⟨a, b, c, d, e, f⟩ := h
  have h1 := Int.mul_nonneg a (by omega : 0 ≤ 1000 - rho)
  have h2 : ticks * (1000 + rho) ≤ ticks * 1200 := Int.mul_le_mul_of_nonneg_left (by omega) a
  exact ⟨by omega, by omega, by omega⟩
theorem CkOk.zero {rho : Int} (r0 : 0 ≤ rho) (r1 : rho ≤ 200) : CkOk 0 0 rho := ⟨by omega, by omega, r0, r1, by omega, by omega⟩
theorem CkOk.step {now ticks rho n : Int} (h : CkOk now ticks rho) (wish : Int) (h0 : 0 ≤ n) (h1 : n ≤ 1099511627776 - ticks) : CkOk (now + cwithin wish (n * (1000 - rho)) (n * (1000 + rho))) (ticks + n) rho := by
  obtain ⟨a, b, c, d, e, f⟩ := h
  obtain ⟨k1, k2⟩ := wish_in wish h0 c d
  exact ⟨by omega, by omega, c, d, by rw [Int.add_mul]; omega, by rw [Int.add_mul]; omega⟩

def goodB (ticks n : Int) : Bool := decide (0 ≤ n) && decide (n ≤ 1099511627776 - ticks)
def stepE (ticks n : Int) : Int := if goodB ticks n then 0 else 2
def stepT (ticks n : Int) : Int := if goodB ticks n then ticks + n else ticks
def stepN (now ticks rho n wish : Int) : Int := if goodB ticks n then now + cwithin wish (n * (1000 - rho)) (n * (1000 + rho)) else now

theorem good_of {ticks n : Int} (h : goodB ticks n = true) : 0 ≤ n ∧ n ≤ 1099511627776 - ticks := by unfold goodB at h; simpa using h
theorem bad_of {ticks n : Int} (h : goodB ticks n = false) : n < 0 ∨ (0 ≤ n ∧ 1099511627776 - ticks < n) := by unfold goodB at h; simp at h; omega
theorem CkOk.any {now ticks rho : Int} (h : CkOk now ticks rho) (n wish : Int) : CkOk (stepN now ticks rho n wish) (stepT ticks n) rho := by
  unfold stepN stepT
  cases hg : goodB ticks n
  · simpa using h
  · obtain ⟨h0, h1⟩ := good_of hg
    simpa using h.step wish h0 h1

theorem step_any (g : Nat) (now ticks rho n wish : Int) (w : World) (h : CkAt w g now ticks rho) (ok : CkOk now ticks rho) :
    Calls Try.prog 38 #[.pointer (some ⟨g, 0, none⟩), .int .i64 n, .int .i64 wish] w fun e w' => e = .returned (.int .i64 (stepE ticks n)) ∧ Fr [g] w w' ∧ CkAt w' g (stepN now ticks rho n wish) (stepT ticks n) rho := by
  obtain ⟨q0, q1, q2⟩ := ok.bd
  unfold stepE stepN stepT
  cases hg : goodB ticks n
  · exact (step_bad g now ticks rho n wish w h ok.t0 ok.t1 (bad_of hg)).mono fun e w' ⟨h1, h2⟩ => by subst h2; exact ⟨h1, Fr.refl _ _, h⟩
  · obtain ⟨h0, h1⟩ := good_of hg
    exact (step_good g now ticks rho n wish w h ok.t0 ok.t1 ok.r0 ok.r1 q0 q1 h0 h1)
/-- Steps that came in. -/
structure StepsIn (W : World) (a : Option Addr) (len cap : Nat) (b o : Nat) (T S : Nat → Int) : Prop where
  le : len ≤ cap
  max : cap ≤ maxLen
  at_ : 0 < len → a = some ⟨b, o, none⟩ ∧ b < W.heap.size
  cell : ∀ k, k < len → W.cell? ⟨b, o + k * 2, none⟩ = some (.int .i64 (T k)) ∧ W.cell? ⟨b, o + k * 2 + 1, none⟩ = some (.int .i64 (S k))

theorem StepsIn.in_ {W wr : World} {a : Option Addr} {len cap b o : Nat} {T S : Nat → Int} (h : StepsIn W a len cap b o T S) (hB : Below W.heap.size W wr) {k : Nat} (hk : k < len) :
    a = some ⟨b, o, none⟩ ∧ b < W.heap.size ∧ wr.cell? ⟨b, o + k * 2, none⟩ = some (.int .i64 (T k)) ∧ wr.cell? ⟨b, o + k * 2 + 1, none⟩ = some (.int .i64 (S k)) := by
  obtain ⟨e0, e1⟩ := h.at_ (by omega)
  obtain ⟨k0, k1⟩ := h.cell k hk
  exact ⟨e0, e1, (hB.cell (p := ⟨b, o + k * 2, none⟩) e1).trans k0, (hB.cell (p := ⟨b, o + k * 2 + 1, none⟩) e1).trans k1⟩

theorem bounds_step {now ticks rho n m t : Int} (wish : Int) (r0 : 0 ≤ rho) (r1 : rho ≤ 200) (h0 : 0 ≤ n) (b1 : t ≤ ticks) (b2 : (ticks - t) * (1000 - rho) ≤ now - m) (b3 : now - m ≤ (ticks - t) * (1000 + rho)) :
    t ≤ ticks + n ∧ (ticks + n - t) * (1000 - rho) ≤ now + cwithin wish (n * (1000 - rho)) (n * (1000 + rho)) - m ∧ now + cwithin wish (n * (1000 - rho)) (n * (1000 + rho)) - m ≤ (ticks + n - t) * (1000 + rho) := by
  obtain ⟨k1, k2⟩ := wish_in wish h0 r0 r1
  have e : ticks + n - t = (ticks - t) + n := by omega
  rw [e, Int.add_mul, Int.add_mul]
  omega
theorem surely_le {n d rho : Int} (r0 : 0 ≤ rho) (r1 : rho ≤ 200) (h : n ≤ d * (1000 + rho)) (hd : 0 ≤ d) : surelyS n rho ≤ d := by
  have e : driftS rho = rho := by unfold driftS cwithin; omega
  unfold surelyS
  rw [e]
  have h1 : cwithin n 0 1125899906842624 ≤ d * (1000 + rho) := by
    have := Int.mul_nonneg hd (by omega : 0 ≤ 1000 + rho)
    unfold cwithin; omega
  have h2 := Int.ediv_le_ediv (by omega : 0 < 1000 + rho) h1
  rwa [Int.mul_ediv_cancel _ (by omega)] at h2
end Go.Proofs.Ytlgjdiadohhleaa
