/-
  rows.From.
-/
import Derived.Test.YtninhjeiialbjaaAs4
namespace Go.Proofs.Ytninhjeiialbjaa
open Go.RowKit
set_option linter.unusedSimpArgs false
set_option linter.unusedVariables false

def DE.ent (x : DE) : Ent := ⟨x.t, x.k, x.s, x.st, x.da, x.dl, x.dc⟩
theorem DIn.sub {W : World} {a : Option Addr} {len cap g o : Nat} {F : Nat → DE} (h : DIn W a len cap g o F) (j n c' : Nat) (a' : Option Addr) (hj : j + n ≤ len) (hn : n ≤ c') (hc : c' ≤ maxLen) (ha : 0 < n → a' = some ⟨g, o + j * 5, none⟩) : DIn W a' n c' g (o + j * 5) (fun k => F (j + k)) :=
  ⟨hn, hc, fun hp => ⟨ha hp, (h.at_ (by omega)).2⟩, fun k hk i hi => by
    have := h.cell (j + k) (by omega) i hi
    rw [← this]
    congr 2
    rw [Nat.add_mul]
    omega, fun k hk => h.ld (j + k) (by omega)⟩
def FromP (w : World) (n : Nat) (F : Nat → DE) (j : Nat) (e : Ending) (w' : World) : Prop := ∃ a' c' g' G, e = .returned (.tuple #[.slice a' n c', .int .i64 0]) ∧ DIn w' a' n c' g' 0 G ∧ (∀ k, k < n → (F (j + k)).sim (G k)) ∧ Below w.heap.size w w'

theorem from_min (M c : Nat) : (16 < (M : Int) ∧ (c : Int) < 16 ∧ min (min M 16) c = c) ∨ (16 < (M : Int) ∧ ¬ ((c : Int) < 16) ∧ min (min M 16) c = 16) ∨ (¬ (16 < (M : Int)) ∧ (c : Int) < (M : Int) ∧ min (min M 16) c = c) ∨ (¬ (16 < (M : Int)) ∧ ¬ ((c : Int) < (M : Int)) ∧ min (min M 16) c = M) := by omega

set_option maxRecDepth 100000 in
set_option maxHeartbeats 8000000 in
theorem from_ok (base term most : Int) (a : Option Addr) (len cap g o j : Nat) (F : Nat → DE) (w : World) (hs : EntsIn w a len cap g o (fun k => (F k).ent)) (hd : DIn w a len cap g o F) (hk : rowsB base term len (fun k => (F k).ent) = true) (hf : ∀ k, k < len → (F k).dl ≤ 1000000) (hj : j ≤ len) :
    Calls Try.prog 69 #[.agg #[.int .i64 base, .int .i64 term, .slice a len cap], .int .i64 (base + ((j + 1 : Nat) : Int)), .int .i64 most] w (FromP w (min (min most.toNat 16) (len - j)) F j) := by
  have hm := hs.max
  have hl := hs.le
  have CUR := Lib.hid (RBox.mk0 w base term (.slice a len cap))
  obtain ⟨b0, b1, h4, t0⟩ := rB_head hk
  have CC := Lib.hid (fun W (h : Below w.heap.size w W) => check_any base term a len cap g o (fun k => (F k).ent) W (hs.below h))
  rw [rE_ok hk] at CC
  have CE := Lib.hid (fun W => end_any base term a len cap W b0 (by omega) hl hm h4)
  unfold maxLen at hm
  obtain ⟨M, hM⟩ : ∃ M : Nat, M = most.toNat := ⟨_, rfl⟩
  rw [← hM]
  have hM2 : max most 0 = (M : Int) := by omega
  obtain ⟨c, hc⟩ : ∃ c, c = len - j := ⟨_, rfl⟩
  rw [← hc]
  obtain ⟨x, hx⟩ : ∃ x, x = base + ((j + 1 : Nat) : Int) := ⟨_, rfl⟩
  rw [← hx]
  have d1 : decide (x ≤ base) = false := by simp; omega
  have s0 : IntKind.i64.wrap (base + len + 1) = base + len + 1 := IntWalk.i64_in _ (by omega)
  have d2 : decide (base + (len : Int) + 1 < x) = false := by simp; omega
  obtain ⟨y, hy⟩ : ∃ y, y = x - base := ⟨_, rfl⟩
  have s1 : IntKind.i64.wrap (x - base) = y := (IntWalk.i64_in _ (by omega)).trans hy.symm
  have s2 : IntKind.i64.wrap (y - 1) = j := (IntWalk.i64_in _ (by omega)).trans (by omega)
  have s3 : IntKind.i64.wrap ((len : Int) - j) = c := (IntWalk.i64_in _ (by omega)).trans (by omega)
  obtain ⟨n, hn⟩ : ∃ n, n = min (min M 16) c := ⟨_, rfl⟩
  rw [← hn]
  obtain ⟨e, he⟩ : ∃ e, e = j + n := ⟨_, rfl⟩
  have s4 : IntKind.i64.wrap ((j : Int) + n) = e := (IntWalk.i64_in _ (by omega)).trans (by omega)
  have t1 : (0 : Int) ≤ e := by omega
  have t2 : (e : Int) ≤ cap := by omega
  have t3 : (j : Int) ≤ e := by omega
  have t4 : (0 : Int) ≤ j := by omega
  have HTW : Hid (∀ a' c', (0 < n → a' = some ⟨g, o + j * 5, none⟩) → n ≤ c' → c' ≤ maxLen → ∀ W, Below w.heap.size w W → Calls Try.prog 102 #[.slice a' n c'] W fun e w' => ∃ a2 c2 g2 G, e = .returned (.slice a2 n c2) ∧ DIn w' a2 n c2 g2 0 G ∧ (∀ k, k < n → (F (j + k)).sim (G k)) ∧ Below W.heap.size W w') := Lib.hid (fun a' c' h1 h2 h3 W hB => by
    have hq := (hd.below hB).sub j n c' a' (by omega) h2 h3 h1
    exact twins_any a' n c' g (o + j * 5) (fun k => F (j + k)) W hq (by omega) (fun k hk => hf (j + k) (by omega)))
  have hcase := from_min M c
  rw [← hn] at hcase
  have hat := hd.at_
  have HE : Hid (e = j + n) := Lib.hid he
  have HCL : Hid (c = len - j ∧ n ≤ c) := Lib.hid ⟨hc, by omega⟩
  have HMX : Hid (e - j = n ∧ n ≤ maxLen) := Lib.hid (by unfold maxLen; omega)
  clear hs hd hk hf hM hc hx hy hn
  by_cases h0 : n = 0
  · have hej : e = j := by omega
    clear he
    subst h0
    subst hej
    cases a
    all_goals
      rcases hcase with ⟨q1, q2, q3⟩ | ⟨q1, q2, q3⟩ | ⟨q1, q2, q3⟩ | ⟨q1, q2, q3⟩
      all_goals
        try omega
      all_goals
        try subst q3
      all_goals
        go_enter Try.func69, Try.ntmps69
        go_wp2_with fail
        go_at_call 60
        refine (CC.out _ CUR.out.2.2).mono ?_
        rintro r W ⟨rfl, hW⟩
        have C2 := Lib.hid (CUR.out.step hW)
        clear hW
        obtain ⟨⟨f0, f1, f2⟩, f3, _⟩ := id C2.out
        go_wp2_with fail
        go_at_call 100
        refine (CE.out _).mono ?_
        rintro r W2 ⟨rfl, hW2⟩
        have C3 := Lib.hid (C2.out.step hW2)
        clear hW2 f0 f1 f2 f3
        obtain ⟨⟨f0, f1, f2⟩, f3, _⟩ := id C3.out
        go_wp2_with fail
        go_at_call 102
        refine (HTW.out _ _ (fun h => by omega) (Nat.zero_le _) (by unfold maxLen; omega) _ C3.out.2.2).mono ?_
        rintro r W3 ⟨a2, c2, g2, G, rfl, hin, hsim, hB3⟩
        have HIN := Lib.hid hin
        have HSIM := Lib.hid hsim
        have C4 := Lib.hid (C3.out.step hB3)
        clear hin hsim hB3 f0 f1 f2 f3
        go_wp2_with fail
        go_ret2
        exact ⟨a2, c2, g2, G, rfl, HIN.out, HSIM.out, C4.out.2.2⟩
  · obtain ⟨e0, e1⟩ := hat (by have := HCL.out; omega)
    subst e0
    have hne : ¬ (e = j) := by omega
    have hM1 : e - j = n := by omega
    have HMX : Hid (n ≤ maxLen) := Lib.hid HMX.out.2
    clear he h0 hat HCL HE
    rcases hcase with ⟨q1, q2, q3⟩ | ⟨q1, q2, q3⟩ | ⟨q1, q2, q3⟩ | ⟨q1, q2, q3⟩
    all_goals
        subst q3
    all_goals
        go_enter Try.func69, Try.ntmps69
        go_wp2_with fail
        go_at_call 60
        refine (CC.out _ CUR.out.2.2).mono ?_
        rintro r W ⟨rfl, hW⟩
        have C2 := Lib.hid (CUR.out.step hW)
        clear hW
        obtain ⟨⟨f0, f1, f2⟩, f3, _⟩ := id C2.out
        go_wp2_with fail
        go_at_call 100
        refine (CE.out _).mono ?_
        rintro r W2 ⟨rfl, hW2⟩
        have C3 := Lib.hid (C2.out.step hW2)
        clear hW2 f0 f1 f2 f3
        obtain ⟨⟨f0, f1, f2⟩, f3, _⟩ := id C3.out
        go_wp2_with fail
        go_at_call 102
        refine (HTW.out _ _ (fun _ => rfl) (Nat.le_refl _) HMX.out _ C3.out.2.2).mono ?_
        rintro r W3 ⟨a2, c2, g2, G, rfl, hin, hsim, hB3⟩
        have HIN := Lib.hid hin
        have HSIM := Lib.hid hsim
        have C4 := Lib.hid (C3.out.step hB3)
        clear hin hsim hB3 f0 f1 f2 f3
        go_wp2_with fail
        go_ret2
        exact ⟨a2, c2, g2, G, rfl, HIN.out, HSIM.out, C4.out.2.2⟩
end Go.Proofs.Ytninhjeiialbjaa
