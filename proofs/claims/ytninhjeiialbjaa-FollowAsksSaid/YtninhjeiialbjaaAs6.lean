/-
  The document's From.
-/
import Derived.Test.YtninhjeiialbjaaAs5
import Derived.Test.YtninhjeiialbjaaFy1
namespace Go.Proofs.Ytninhjeiialbjaa
open Go.RowKit
set_option linter.unusedSimpArgs false
set_option linter.unusedVariables false

set_option maxRecDepth 100000 in
set_option maxHeartbeats 8000000 in
theorem rfrom_ok (base term most : Int) (a : Option Addr) (len cap g o j : Nat) (F : Nat → DE) (w : World) (hs : EntsIn w a len cap g o (fun k => (F k).ent)) (hd : DIn w a len cap g o F) (hk : rowsB base term len (fun k => (F k).ent) = true) (hf : ∀ k, k < len → (F k).dl ≤ 1000000) (hj : j ≤ len) :
    Calls Try.prog 70 #[.agg #[.int .i64 base, .int .i64 term, .slice a len cap], .int .i64 (base + ((j + 1 : Nat) : Int)), .int .i64 most] w (FromP w (min (min most.toNat 16) (len - j)) F j) := by
  have hm := hs.max
  have hl := hs.le
  have CUR := Lib.hid (RBox.mk0 w base term (.slice a len cap))
  obtain ⟨b0, b1, h4, t0⟩ := rB_head hk
  have CC := Lib.hid (fun W (h : Below w.heap.size w W) => rcheck_any base term a len cap g o (fun k => (F k).ent) W (hs.below h))
  rw [rE_ok hk] at CC
  have CE := Lib.hid (fun W (h : Below w.heap.size w W) => rlast_ok base term a len cap g o (fun k => (F k).ent) W (hs.below h) hk)
  obtain ⟨lt, hlt⟩ : ∃ lt, lt = lastT term len (fun k => (F k).ent) := ⟨_, rfl⟩
  rw [← hlt] at CE
  unfold maxLen at hm
  obtain ⟨m, hmm⟩ : ∃ m : Nat, m = min most.toNat 16 := ⟨_, rfl⟩
  rw [← hmm]
  have hM2 : min (max most 0) 16 = (m : Int) := by omega
  obtain ⟨c, hc⟩ : ∃ c, c = len - j := ⟨_, rfl⟩
  rw [← hc]
  obtain ⟨x, hx⟩ : ∃ x, x = base + ((j + 1 : Nat) : Int) := ⟨_, rfl⟩
  rw [← hx]
  have d1 : decide (x ≤ base) = false := by simp; omega
  have s0 : IntKind.i64.wrap (base + len + 1) = base + len + 1 := IntWalk.i64_in _ (by omega)
  have d2 : decide (base + (len : Int) + 1 < x) = false := by simp; omega
  obtain ⟨y, hy⟩ : ∃ y, y = x - base := ⟨_, rfl⟩
  have s1 : IntKind.i64.wrap (x - base) = y := (IntWalk.i64_in _ (by omega)).trans hy.symm
  have s2 : IntKind.i64.wrap (y - 1) = j := (IntWalk.i64_in _ (by omega)).trans (by omega)
  have s5 : len - j = c := hc.symm
  obtain ⟨n, hn⟩ : ∃ n, n = min m c := ⟨_, rfl⟩
  rw [← hn]
  have s6 : min (m : Int) (c : Int) = n := by omega
  obtain ⟨r, hr⟩ : ∃ r, r = cap - j := ⟨_, rfl⟩
  have s7 : cap - j = r := hr.symm
  have t1 : (0 : Int) ≤ n := by omega
  have t2 : (n : Int) ≤ r := by omega
  have t3 : (j : Int) ≤ len := by omega
  have t4 : (0 : Int) ≤ j := by omega
  have HTW : Hid (∀ a' c', (0 < n → a' = some ⟨g, o + j * 5, none⟩) → n ≤ c' → c' ≤ maxLen → ∀ W, Below w.heap.size w W → Calls Try.prog 103 #[.slice a' n c'] W fun e w' => ∃ a2 c2 g2 G, e = .returned (.slice a2 n c2) ∧ DIn w' a2 n c2 g2 0 G ∧ (∀ k, k < n → (F (j + k)).sim (G k)) ∧ Below W.heap.size W w') := Lib.hid (fun a' c' h1 h2 h3 W hB => by
    have hq := (hd.below hB).sub j n c' a' (by omega) h2 h3 h1
    exact copied_any a' n c' g (o + j * 5) (fun k => F (j + k)) W hq (by omega) (fun k hk => hf (j + k) (by omega)))
  have hat := hd.at_
  have HCL : Hid (c = len - j ∧ n ≤ c) := Lib.hid ⟨hc, by omega⟩
  have HMX : Hid (n ≤ r ∧ r ≤ maxLen) := Lib.hid (by unfold maxLen; omega)
  clear hs hd hk hf hc hx hy hn hmm hlt
  by_cases h0 : j = cap
  · have hn0 : n = 0 := by omega
    have s8 : min (m : Int) 0 = 0 := by omega
    clear hr
    subst hn0
    cases a
    all_goals
        go_enter Try.func70, Try.ntmps70
        go_wp2_with fail
        go_at_call 31
        refine (CC.out _ CUR.out.2.2).mono ?_
        rintro r W ⟨rfl, hW⟩
        have C2 := Lib.hid (CUR.out.step hW)
        clear hW
        obtain ⟨⟨f0, f1, f2⟩, f3, _⟩ := id C2.out
        go_wp2_with fail
        go_at_call 32
        refine (CE.out _ C2.out.2.2).mono ?_
        rintro r W2 ⟨rfl, hW2⟩
        have C3 := Lib.hid (C2.out.step hW2)
        clear hW2 f0 f1 f2 f3
        obtain ⟨⟨f0, f1, f2⟩, f3, _⟩ := id C3.out
        go_wp2_with fail
        go_at_call 103
        refine (HTW.out _ _ (fun h => by omega) (Nat.zero_le _) (by have := HMX.out; unfold maxLen at *; omega) _ C3.out.2.2).mono ?_
        rintro r W3 ⟨a2, c2, g2, G, rfl, hin, hsim, hB3⟩
        have HIN := Lib.hid hin
        have HSIM := Lib.hid hsim
        have C4 := Lib.hid (C3.out.step hB3)
        clear hin hsim hB3 f0 f1 f2 f3
        go_wp2_with fail
        go_ret2
        exact ⟨a2, c2, g2, G, rfl, HIN.out, HSIM.out, C4.out.2.2⟩
  · by_cases hz : len = 0
    · have hj0 : j = 0 := by omega
      have hn0 : n = 0 := by omega
      have hr0 : cap = r := by omega
      have s8 : min (m : Int) 0 = 0 := by omega
      have hc0 : c = 0 := by have := HCL.out; omega
      have d3 : decide (base + 1 < x) = false := by rw [hz] at d2; simpa using d2
      have s9 : IntKind.i64.wrap (base + 1) = base + 1 := by rw [hz] at s0; simpa using s0
      clear hr
      subst hn0 hj0 hz hc0
      subst hr0
      have hp : ¬ ((0 : Nat) = cap) := h0
      have hp2 : ¬ (cap = 0) := by omega
      cases a
      all_goals
          go_enter Try.func70, Try.ntmps70
          go_wp2_with fail
          go_at_call 31
          refine (CC.out _ CUR.out.2.2).mono ?_
          rintro r W ⟨rfl, hW⟩
          have C2 := Lib.hid (CUR.out.step hW)
          clear hW
          obtain ⟨⟨f0, f1, f2⟩, f3, _⟩ := id C2.out
          go_wp2_with fail
          go_at_call 32
          refine (CE.out _ C2.out.2.2).mono ?_
          rintro r W2 ⟨rfl, hW2⟩
          have C3 := Lib.hid (C2.out.step hW2)
          clear hW2 f0 f1 f2 f3
          obtain ⟨⟨f0, f1, f2⟩, f3, _⟩ := id C3.out
          go_wp2_with fail
          go_at_call 103
          refine (HTW.out _ _ (fun h => by omega) (Nat.zero_le _) (by have := HMX.out; unfold maxLen at *; omega) _ C3.out.2.2).mono ?_
          rintro r W3 ⟨a2, c2, g2, G, rfl, hin, hsim, hB3⟩
          have HIN := Lib.hid hin
          have HSIM := Lib.hid hsim
          have C4 := Lib.hid (C3.out.step hB3)
          clear hin hsim hB3 f0 f1 f2 f3
          go_wp2_with fail
          go_ret2
          exact ⟨a2, c2, g2, G, rfl, HIN.out, HSIM.out, C4.out.2.2⟩
    · obtain ⟨e0, e1⟩ := hat (by omega)
      subst e0
      have hne : ¬ (cap = j) := by omega
      clear hr h0 hz hat HCL
      go_enter Try.func70, Try.ntmps70
      go_wp2_with fail
      go_at_call 31
      refine (CC.out _ CUR.out.2.2).mono ?_
      rintro r W ⟨rfl, hW⟩
      have C2 := Lib.hid (CUR.out.step hW)
      clear hW
      obtain ⟨⟨f0, f1, f2⟩, f3, _⟩ := id C2.out
      go_wp2_with fail
      go_at_call 32
      refine (CE.out _ C2.out.2.2).mono ?_
      rintro r W2 ⟨rfl, hW2⟩
      have C3 := Lib.hid (C2.out.step hW2)
      clear hW2 f0 f1 f2 f3
      obtain ⟨⟨f0, f1, f2⟩, f3, _⟩ := id C3.out
      go_wp2_with fail
      go_at_call 103
      refine (HTW.out _ _ (fun _ => rfl) HMX.out.1 HMX.out.2 _ C3.out.2.2).mono ?_
      rintro r W3 ⟨a2, c2, g2, G, rfl, hin, hsim, hB3⟩
      have HIN := Lib.hid hin
      have HSIM := Lib.hid hsim
      have C4 := Lib.hid (C3.out.step hB3)
      clear hin hsim hB3 f0 f1 f2 f3
      go_wp2_with fail
      go_ret2
      exact ⟨a2, c2, g2, G, rfl, HIN.out, HSIM.out, C4.out.2.2⟩
end Go.Proofs.Ytninhjeiialbjaa
