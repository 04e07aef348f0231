/-
  Where a tenant stands: the program.
-/
import Derived.Test.YtpgpcgpecpimlaaPo5
import Derived.Test.YtpgpcgpecpimlaaPo2
import Derived.Deep.RegionLaw
namespace Go.Proofs.Ytpgpcgpecpimlaa
open Go.RowKit
set_option linter.unusedSimpArgs false
set_option linter.unusedVariables false

set_option maxRecDepth 100000 in
set_option maxHeartbeats 2000000 in
theorem number_any (x : TnE) (w : World) : Calls Try.prog 97 #[x.agg] w fun e w' => e = .returned (.int .i64 x.id) ∧ Below w.heap.size w w' := by
  obtain ⟨N, hN⟩ : ∃ N, N = w.heap.size := ⟨_, rfl⟩
  obtain ⟨W1, hW1⟩ : ∃ W1, W1 = w.alloc (.cells #[.int .i64 x.id, .int .i64 x.rate, .int .i64 x.burst, .int .i64 x.bkt, .bool x.gone] 72) := ⟨_, rfl⟩
  have hB1 : Below w.heap.size w W1 := by rw [hW1]; exact (Below.refl _ _).alloc (Nat.le_refl _) _
  have hk : Blk W1 N #[.int .i64 x.id, .int .i64 x.rate, .int .i64 x.burst, .int .i64 x.bkt, .bool x.gone] 72 := by rw [hW1, hN]; exact blk_new _ _ _
  have c0 : W1.cell? ⟨N, 0, none⟩ = some (.int .i64 x.id) := cell_at hk 0
  have HB1 := Lib.hid hB1
  clear hB1 hk
  unfold TnE.agg
  go_enter Try.func97, Try.ntmps97
  go_upto_region 1 with fail
  rw [← hN, ← hW1]
  clear hN hW1
  go_wp2_with fail
  go_ret
  exact ⟨rfl, HB1.out⟩
set_option maxRecDepth 100000 in
set_option maxHeartbeats 4000000 in
theorem place_any (v : Value) (L : List TnE) (key : Int) (w : World) (h : TV w v L) : Calls Try.prog 96 #[v, .int .i64 key, .func (.func 97) #[] #[]] w fun e w' => e = .returned (.tuple #[.int .i64 (plc key L : Nat), .bool (isAt key L)]) ∧ Below w.heap.size w w' := by
  obtain ⟨p, hp⟩ : ∃ p, p = plc key L := ⟨_, rfl⟩
  have hp1 : p ≤ L.length := by rw [hp]; exact plc_le _ _
  have HP2 : Hid (∀ j, j < p → (gt L j).id < key) := Lib.hid (by rw [hp]; exact plc_lt _ _)
  have HP3 : Hid (p < L.length → ¬ (gt L p).id < key) := Lib.hid (by rw [hp]; exact plc_at _ _)
  have HP4 : Hid (isAt key L = (decide (p < L.length) && decide ((gt L p).id = key))) := Lib.hid (by rw [hp]; exact isAt_eq _ _)
  rw [← hp]
  clear hp
  obtain ⟨a, b, o, cap, rfl, h⟩ := h
  have m1 := h.le
  have m2 := h.max
  unfold maxLen at m2
  have H1 := Lib.hid h
  clear h
  obtain ⟨n, hn⟩ : ∃ n, n = L.length := ⟨_, rfl⟩
  have HN := Lib.hid hn
  rw [← hn] at m1 H1 ⊢
  clear hn
  rw [← HN.out] at HP3 HP4 hp1
  go_enter Try.func96, Try.ntmps96
  go_wp2_with fail
  go_loopw [8] (fun i wr => ∃ k : Nat, k ≤ p ∧ i = .int .i64 k ∧ Below w.heap.size w wr) (fun i _ => n - (intOf i).toNat)
  case atStart => exact ⟨0, Nat.zero_le _, rfl, Below.refl _ _⟩
  case round =>
    obtain ⟨k, hk, rfl, hB⟩ := hrel
    have HB := Lib.hid hB
    clear hB
    by_cases hlt : k < n
    · have hs1 := H1.out.below HB.out
      obtain ⟨e0, e1⟩ := hs1.at_ (by omega)
      subst e0
      obtain ⟨c0, c1, c2, c3, c4⟩ := hs1.cell k hlt
      have hlk := HP2.out k
      have hpk := HP3.out
      obtain ⟨x, hx⟩ : ∃ x, x = gt L k := ⟨_, rfl⟩
      rw [← hx] at c0 c1 c2 c3 c4 hlk
      have HNU := Lib.hid (fun W => number_any x W)
      unfold TnE.agg at HNU
      clear hs1
      by_cases h1 : x.id < key
      · have hkp : k < p := by
          rcases Nat.lt_or_ge k p with h | h
          · exact h
          · obtain rfl : k = p := by omega
            rw [← hx] at hpk
            exact absurd h1 (by have := hpk hlt; omega)
        clear hx hlk hpk
        go_wp2_with (refine Calls.mono (HNU.out _) ?_; rintro e W3 ⟨rfl, hB3⟩; have HB3 := Lib.hid (HB.out.trans (hB3.mono HB.out.size)); clear hB3)
        go_roundw
        case rel => exact ⟨k + 1, by omega, by go_num, HB3.out⟩
        case measure => first | (simp [intOf]; done) | (simp [intOf]; omega)
      · obtain rfl : k = p := by
          rcases Nat.lt_or_ge k p with h | h
          · exact absurd (hlk h) h1
          · omega
        rw [← hx] at HP4
        have HS1 : Hid (isAt key L = decide (x.id = key)) := Lib.hid (by rw [HP4.out]; simp [hlt])
        clear hx hlk hpk HP4
        go_wp2_with (refine Calls.mono (HNU.out _) ?_; rintro e W3 ⟨rfl, hB3⟩; have HB3 := Lib.hid (HB.out.trans (hB3.mono HB.out.size)); have hb3 : b < W3.heap.size := Nat.lt_of_lt_of_le e1 hB3.size; have d0 : W3.cell? ⟨b, o + k * 5, none⟩ = some (.int .i64 x.id) := (hB3.cell (p := ⟨b, _, none⟩) e1).trans c0; have d1 : W3.cell? ⟨b, o + k * 5 + 1, none⟩ = some (.int .i64 x.rate) := (hB3.cell (p := ⟨b, _, none⟩) e1).trans c1; have d2 : W3.cell? ⟨b, o + k * 5 + 2, none⟩ = some (.int .i64 x.burst) := (hB3.cell (p := ⟨b, _, none⟩) e1).trans c2; have d3 : W3.cell? ⟨b, o + k * 5 + 3, none⟩ = some (.int .i64 x.bkt) := (hB3.cell (p := ⟨b, _, none⟩) e1).trans c3; have d4 : W3.cell? ⟨b, o + k * 5 + 4, none⟩ = some (.bool x.gone) := (hB3.cell (p := ⟨b, _, none⟩) e1).trans c4; clear hB3 c0 c1 c2 c3 c4)
        go_wp2_with (refine Calls.mono (HNU.out _) ?_; rintro e W4 ⟨rfl, hB4⟩; have HB4 := Lib.hid (HB3.out.trans (hB4.mono HB3.out.size)); clear hB4)
        exact bodyPost_ret (v := .tuple #[.int .i64 (k : Nat), .bool (decide (x.id = key))]) (by simp [results, Try.results96, go_sem]; rfl) rfl ⟨by rw [HS1.out], HB4.out⟩
    · obtain rfl : k = n := by omega
      obtain rfl : k = p := by omega
      have HS1 : Hid (isAt key L = false) := Lib.hid (by rw [HP4.out]; simp)
      clear HP4 HP3 HP2
      go_wp2_with fail
      exact bodyPost_ret (v := .tuple #[.int .i64 (k : Nat), .bool false]) (by simp [results, Try.results96, go_sem]) rfl ⟨by rw [HS1.out], HB.out⟩
end Go.Proofs.Ytpgpcgpecpimlaa
