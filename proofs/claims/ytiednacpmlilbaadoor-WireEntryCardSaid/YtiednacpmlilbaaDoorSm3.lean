/-
  Package sums and the document's answer: sums of bytes.
-/
import Derived.Test.YtiednacpmlilbaaDoorSm2
namespace Go.Proofs.YtiednacpmlilbaaDoor
open Go.RowKit
set_option linter.unusedSimpArgs false
set_option linter.unusedVariables false

/-- A row of bytes. -/
structure SyIn (W : World) (a : Option Addr) (len cap : Nat) (b o : Nat) (X : Nat → Nat) : Prop where
  le : len ≤ cap
  max : cap ≤ maxLen
  at_ : 0 < len → a = some ⟨b, o, none⟩ ∧ b < W.heap.size
  cell : ∀ k, k < len → W.cell? ⟨b, o + k, none⟩ = some (.int .u8 (X k : Nat))
  bd : ∀ k, X k < 256
theorem sy_cells (W : World) {a : Option Addr} {len cap : Nat} {xs : List Dt} (h : SliceFits Tryd.prog W 5 a len cap xs) : ∃ (b o : Nat) (X : Nat → Nat), SyIn W a len cap b o X := by
  have hc : Tryd.prog.cellsOf 5 = 1 := by kernel_rfl
  obtain ⟨b, o, h1, h2⟩ := h.spot (by rw [hc]; omega)
  have hex : ∀ k, ∃ q : Nat, (k < len → W.cell? ⟨b, o + k, none⟩ = some (.int .u8 (q : Nat))) ∧ q < 256 := fun k => by
    by_cases hk : k < len
    · have hl := h.length
      have hx := List.getElem?_eq_getElem (l := xs) (i := k) (by omega)
      obtain ⟨n0, e0, g0⟩ := (h.each k _ hx).1.int_inv Tryd.underlying5
      have hcell := h2 k _ hx
      rw [e0, hc] at hcell
      have g1 : 0 ≤ n0 ∧ n0 ≤ 255 := g0
      obtain ⟨q, rfl⟩ := Int.eq_ofNat_of_zero_le g1.1
      exact ⟨q, fun _ => by have := hcell 0 _ rfl; rwa [Nat.mul_one] at this, by omega⟩
    · exact ⟨0, fun h => absurd h hk, by omega⟩
  have hg := fun k => Classical.choose_spec (hex k)
  exact ⟨b, o, fun k => Classical.choose (hex k), h.le, h.max, h1, fun k hk => (hg k).1 hk, fun k => (hg k).2⟩
theorem SyIn.below {W W' : World} {a : Option Addr} {len cap b o : Nat} {X : Nat → Nat} (h : SyIn W a len cap b o X) (hB : Below W.heap.size W W') : SyIn W' a len cap b o X :=
  ⟨h.le, h.max, fun hk => ⟨(h.at_ hk).1, by have := (h.at_ hk).2; have := hB.size; omega⟩, fun k hk => (hB.cell (p := ⟨b, _, none⟩) (h.at_ (by omega)).2).trans (h.cell k hk), h.bd⟩

theorem xor_lt32 {a b : Nat} (ha : a < 4294967296) (hb : b < 4294967296) : a ^^^ b < 4294967296 := Nat.xor_lt_two_pow (n := 32) ha hb
theorem xor_xor (m n : Nat) : m ^^^ (m ^^^ n) = n := by rw [← Nat.xor_assoc, Nat.xor_self, Nat.zero_xor]
def cplm (m n : Nat) : Nat := m ^^^ n
theorem cplm_twice (m n : Nat) : cplm m (cplm m n) = n := xor_xor m n
theorem cplm_lt {m n : Nat} (hm : m < 4294967296) (h : n < 4294967296) : cplm m n < 4294967296 := xor_lt32 hm h
theorem cplm_bits (m n : Nat) (hm : m < 4294967296) (h : n < 4294967296) : bits .xor .u32 (m : Int) (n : Int) = (cplm m n : Nat) := xor_u32 m n hm h
@[irreducible] def onesU : Nat := 4294967295
theorem ones_is : onesU = 4294967295 := by unfold onesU; rfl
def cpl (n : Nat) : Nat := cplm onesU n
theorem cpl_lt {n : Nat} (h : n < 4294967296) : cpl n < 4294967296 := cplm_lt (by rw [ones_is]; omega) h
theorem cpl_bits (n : Nat) (h : n < 4294967296) : bits .xor .u32 IntKind.u32.max (n : Int) = (cpl n : Nat) := by
  have h2 := cplm_bits onesU n (by rw [ones_is]; omega) h
  have h3 : IntKind.u32.max = (onesU : Nat) := by rw [ones_is]; rfl
  rw [h3]
  exact h2
theorem cpl_cpl (n : Nat) : cpl (cpl n) = n := cplm_twice onesU n
/-- the sum of bytes behind a sum -/
def moreN (s : Nat) (X : Nat → Nat) (len : Nat) : Nat := cpl (runB X (cpl s) len)

set_option maxRecDepth 100000 in
set_option maxHeartbeats 4000000 in
theorem more_any (s : Nat) (hs : s < 4294967296) (a : Option Addr) (len cap b o : Nat) (X : Nat → Nat) (w : World) (ht : Tab w) (hb : SyIn w a len cap b o X) :
    Calls Tryd.prog 109 #[.int .u32 (s : Nat), .slice a len cap] w fun e w' => e = .returned (.int .u32 (moreN s X len : Nat)) ∧ w = w' := by
  have hm := hb.max
  have hl := hb.le
  unfold maxLen at hm
  have HB := Lib.hid hb
  have HT := Lib.hid ht
  obtain ⟨c, hc⟩ : ∃ c, c = cpl s := ⟨_, rfl⟩
  have hc2 : c < 4294967296 := by rw [hc]; exact cpl_lt hs
  have e0 := cpl_bits s hs
  have HM : Hid (moreN s X len = cpl (runB X c len)) := Lib.hid (by unfold moreN; rw [hc])
  obtain ⟨M, hM⟩ : ∃ M, M = moreN s X len := ⟨_, rfl⟩
  rw [← hM] at HM ⊢
  rw [← hc] at e0
  have hrl : ∀ k, runB X c k < 4294967296 := fun k => runB_lt X c hc2 k (fun j _ => hb.bd j)
  have HRL := Lib.hid hrl
  clear hb ht hM hc hs hrl
  go_enter Tryd.func109, Tryd.ntmps109
  go_wp2_with fail
  go_loop [5, 12] (fun r i => ∃ k : Nat, k ≤ len ∧ i = .int .i64 k ∧ r = .int .u32 (runB X c k : Nat)) (fun _ i => len - (intOf i).toNat)
  case atStart => exact ⟨0, Nat.zero_le _, rfl, rfl⟩
  case round =>
    obtain ⟨k, hk, rfl, rfl⟩ := hrel
    by_cases hlt : k < len
    · obtain ⟨e0, e1⟩ := HB.out.at_ (by omega)
      subst e0
      have k0 := HB.out.cell k hlt
      have hx8 := HB.out.bd k
      obtain ⟨x, hx⟩ : ∃ x, x = X k := ⟨_, rfl⟩
      obtain ⟨r, hr⟩ : ∃ r, r = runB X c k := ⟨_, rfl⟩
      have hr32 : r < 4294967296 := by rw [hr]; exact HRL.out k
      rw [← hx] at k0 hx8
      have e2 := xor_u32 r x hr32 (by omega)
      have hz32 : r ^^^ x < 4294967296 := Nat.xor_lt_two_pow (n := 32) hr32 (by omega)
      have HN : Hid (runB X c (k + 1) = stpN 4 (stpN 4 (r ^^^ x))) := Lib.hid (by
        show byt (runB X c k) (X k) = _
        rw [← hr, ← hx, byt, ← stpN_add])
      have F1 : Hid (Calls Tryd.prog 113 #[.int .u32 ((r ^^^ x : Nat) : Int)] w fun e w' => e = .returned (.int .u32 (stpN 4 (r ^^^ x) : Nat)) ∧ w = w') := Lib.hid (by
        have h := four_any ((r ^^^ x : Nat) : Int) (by omega) (by omega) w HT.out
        exact h)
      have hz33 := stpN_lt 4 hz32
      have F2 : Hid (Calls Tryd.prog 113 #[.int .u32 ((stpN 4 (r ^^^ x) : Nat) : Int)] w fun e w' => e = .returned (.int .u32 (stpN 4 (stpN 4 (r ^^^ x)) : Nat)) ∧ w = w') := Lib.hid (by
        have h := four_any ((stpN 4 (r ^^^ x) : Nat) : Int) (by omega) (by omega) w HT.out
        exact h)
      rw [← hr]
      obtain ⟨z, hz⟩ : ∃ z, z = r ^^^ x := ⟨_, rfl⟩
      rw [← hz] at e2 HN F1 F2
      obtain ⟨z1, hz1⟩ : ∃ z1, z1 = stpN 4 z := ⟨_, rfl⟩
      rw [← hz1] at HN F1 F2
      obtain ⟨z2, hz2⟩ : ∃ z2, z2 = stpN 4 z1 := ⟨_, rfl⟩
      rw [← hz2] at HN F2
      clear hx hr hz hz1 hz2 hz32 hz33
      go_wp2_with fail
      go_at_call 113
      refine F1.out.mono ?_
      rintro e w' ⟨rfl, rfl⟩
      go_wp2_with fail
      go_at_call 113
      refine F2.out.mono ?_
      rintro e w' ⟨rfl, rfl⟩
      go_wp2_with fail
      go_round
      case rel => exact ⟨k + 1, by omega, by go_num, by rw [HN.out]⟩
      case measure => first | (simp [intOf]; done) | (simp [intOf]; omega)
    · obtain rfl : k = len := by omega
      have e3 := cpl_bits _ (HRL.out k)
      rw [← HM.out] at e3
      go_wp2_with fail
      go_ret
      exact ⟨rfl, rfl⟩

set_option maxRecDepth 100000 in
set_option maxHeartbeats 4000000 in
theorem rmore_any (s : Nat) (hs : s < 4294967296) (a : Option Addr) (len cap b o : Nat) (X : Nat → Nat) (w : World) (hb : SyIn w a len cap b o X) :
    Calls Tryd.prog 111 #[.int .u32 (s : Nat), .slice a len cap] w fun e w' => e = .returned (.int .u32 (moreN s X len : Nat)) ∧ w = w' := by
  have hm := hb.max
  have hl := hb.le
  unfold maxLen at hm
  have HB := Lib.hid hb
  obtain ⟨c, hc⟩ : ∃ c, c = cpl s := ⟨_, rfl⟩
  have hc2 : c < 4294967296 := by rw [hc]; exact cpl_lt hs
  have e0 := cpl_bits s hs
  have HM : Hid (moreN s X len = cpl (runB X c len)) := Lib.hid (by unfold moreN; rw [hc])
  obtain ⟨M, hM⟩ : ∃ M, M = moreN s X len := ⟨_, rfl⟩
  rw [← hM] at HM ⊢
  rw [← hc] at e0
  have hrl : ∀ k, runB X c k < 4294967296 := fun k => runB_lt X c hc2 k (fun j _ => hb.bd j)
  have HRL := Lib.hid hrl
  clear hb hM hc hs hrl
  go_enter Tryd.func111, Tryd.ntmps111
  go_wp2_with fail
  go_loop [5, 6] (fun r i => ∃ k : Nat, k ≤ len ∧ i = .int .i64 k ∧ r = .int .u32 (runB X c k : Nat)) (fun _ i => len - (intOf i).toNat)
  case atStart => exact ⟨0, Nat.zero_le _, rfl, rfl⟩
  case round =>
    obtain ⟨k, hk, rfl, rfl⟩ := hrel
    by_cases hlt : k < len
    · obtain ⟨e0, e1⟩ := HB.out.at_ (by omega)
      subst e0
      have k0 := HB.out.cell k hlt
      have hx8 := HB.out.bd k
      obtain ⟨x, hx⟩ : ∃ x, x = X k := ⟨_, rfl⟩
      obtain ⟨r, hr⟩ : ∃ r, r = runB X c k := ⟨_, rfl⟩
      have hr32 : r < 4294967296 := by rw [hr]; exact HRL.out k
      rw [← hx] at k0 hx8
      have e2 := xor_u32 r x hr32 (by omega)
      have hz32 : r ^^^ x < 4294967296 := xor_lt32 hr32 (by omega)
      have HN : Hid (runB X c (k + 1) = stpN 8 (r ^^^ x)) := Lib.hid (by
        show byt (runB X c k) (X k) = _
        rw [← hr, ← hx, byt])
      rw [← hr]
      obtain ⟨z, hz⟩ : ∃ z, z = r ^^^ x := ⟨_, rfl⟩
      rw [← hz] at e2 HN hz32
      clear hx hr hz
      go_wp2_with fail
      go_loop [5, 7] (fun r i => ∃ m : Nat, m ≤ 8 ∧ i = .int .i64 m ∧ r = .int .u32 (stpN m z : Nat)) (fun _ i => 8 - (intOf i).toNat)
      case atStart => exact ⟨0, Nat.zero_le _, rfl, rfl⟩
      case round =>
        obtain ⟨m, hm8, rfl, rfl⟩ := hrel
        have hq32 := stpN_lt m hz32
        have HS : Hid (stpN (m + 1) z = stp (stpN m z)) := Lib.hid (by rw [stpN_add m 1]; rfl)
        obtain ⟨q, hq⟩ : ∃ q, q = stpN m z := ⟨_, rfl⟩
        rw [← hq] at hq32 HS ⊢
        by_cases hml : m < 8
        · have d1 : decide ((m : Int) < 8) = true := by simp; omega
          have e4 := (and_u32 q hq32).2
          have hq31 : q / 2 < 4294967296 := by omega
          have e5 := xor_u32 (q / 2) 3988292384 hq31 (by omega)
          obtain ⟨y, hy⟩ : ∃ y : Int, y = (q : Int) := ⟨_, rfl⟩
          have e6 : ((q / 2 : Nat) : Int) = y / 2 := by rw [hy]; omega
          rcases Nat.mod_two_eq_zero_or_one q with h2 | h2
          · have HS2 : Hid (((stp q : Nat) : Int) = y / 2) := Lib.hid (by unfold stp; rw [if_neg (by omega), e6])
            rw [h2] at e4
            rw [← hy] at e4 ⊢
            have y0 : 0 ≤ y := by omega
            have y1 : y < 4294967296 := by omega
            clear e5 e6 hy hq h2
            go_wp2_with fail
            go_round
            case rel => exact ⟨m + 1, by omega, by go_num, by rw [HS.out, HS2.out]⟩
            case measure => first | (simp [intOf]; done) | (simp [intOf]; omega)
          · have HS2 : Hid (stp q = q / 2 ^^^ 3988292384) := Lib.hid (by unfold stp; rw [if_pos h2])
            rw [h2] at e4
            rw [← HS2.out, e6] at e5
            rw [← hy] at e4 ⊢
            have y0 : 0 ≤ y := by omega
            have y1 : y < 4294967296 := by omega
            have e5 : bits .xor .u32 (y / 2) 3988292384 = ((stp q : Nat) : Int) := e5
            obtain ⟨g, hg⟩ : ∃ g, g = stp q := ⟨_, rfl⟩
            rw [← hg] at e5 HS
            clear e6 hy hq h2 HS2 hg
            go_wp2_with fail
            go_round
            case rel => exact ⟨m + 1, by omega, by go_num, by rw [HS.out]⟩
            case measure => first | (simp [intOf]; done) | (simp [intOf]; omega)
        · obtain rfl : m = 8 := by omega
          have HN2 : Hid (runB X c (k + 1) = q) := Lib.hid (by rw [HN.out, hq])
          clear hq
          go_wp2_with fail
          go_round
          case rel => exact ⟨k + 1, by omega, by go_num, by rw [HN2.out]⟩
          case measure => first | (simp [intOf]; done) | (simp [intOf]; omega)
    · obtain rfl : k = len := by omega
      have e3 := cpl_bits _ (HRL.out k)
      rw [← HM.out] at e3
      go_wp2_with fail
      go_ret
      exact ⟨rfl, rfl⟩
end Go.Proofs.YtiednacpmlilbaaDoor
