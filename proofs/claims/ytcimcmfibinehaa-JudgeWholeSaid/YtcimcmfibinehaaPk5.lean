/-
  Package packet: carry and Check.
-/
import Derived.Lib.BitFns
import Derived.Lib.Small
import Derived.Laws.BitsLemmas
import Derived.Deep.DeepCutAuto
import Derived.WalkMore
import Derived.Test.YtcimcmfibinehaaPk4
namespace Go.Proofs.Ytcimcmfibinehaa
open Go.RowKit
set_option linter.unusedSimpArgs false
set_option linter.unusedVariables false

/-- A row of bytes. -/
structure ByIn (W : World) (a : Option Addr) (len cap : Nat) (b o : Nat) (X : Nat → Nat) : Prop where
  le : len ≤ cap
  max : cap ≤ maxLen
  at_ : 0 < len → a = some ⟨b, o, none⟩ ∧ b < W.heap.size
  cell : ∀ k, k < len → W.cell? ⟨b, o + k, none⟩ = some (.int .u8 (X k : Nat))
  bd : ∀ k, X k < 256
theorem by_cells (W : World) {a : Option Addr} {len cap : Nat} {xs : List Dt} (h : SliceFits Try.prog W 5 a len cap xs) : ∃ (b o : Nat) (X : Nat → Nat), ByIn W a len cap b o X := by
  have hc : Try.prog.cellsOf 5 = 1 := by kernel_rfl
  obtain ⟨b, o, h1, h2⟩ := h.spot (by rw [hc]; omega)
  have hex : ∀ k, ∃ q : Nat, (k < len → W.cell? ⟨b, o + k, none⟩ = some (.int .u8 (q : Nat))) ∧ q < 256 := fun k => by
    by_cases hk : k < len
    · have hl := h.length
      have hx := List.getElem?_eq_getElem (l := xs) (i := k) (by omega)
      obtain ⟨n0, e0, g0⟩ := (h.each k _ hx).1.int_inv Try.underlying5
      have hcell := h2 k _ hx
      rw [e0, hc] at hcell
      have g1 : 0 ≤ n0 ∧ n0 ≤ 255 := g0
      obtain ⟨q, rfl⟩ := Int.eq_ofNat_of_zero_le g1.1
      exact ⟨q, fun _ => by have := hcell 0 _ rfl; rwa [Nat.mul_one] at this, by omega⟩
    · exact ⟨0, fun h => absurd h hk, by omega⟩
  have hg := fun k => Classical.choose_spec (hex k)
  exact ⟨b, o, fun k => Classical.choose (hex k), h.le, h.max, h1, fun k hk => (hg k).1 hk, fun k => (hg k).2⟩
theorem ByIn.below {W W' : World} {a : Option Addr} {len cap b o : Nat} {X : Nat → Nat} (h : ByIn W a len cap b o X) (hB : Below W.heap.size W W') : ByIn W' a len cap b o X :=
  ⟨h.le, h.max, fun hk => ⟨(h.at_ hk).1, by have := (h.at_ hk).2; have := hB.size; omega⟩, fun k hk => (hB.cell (p := ⟨b, _, none⟩) (h.at_ (by omega)).2).trans (h.cell k hk), h.bd⟩


/-- what goes beyond 16 bits, brought round -/
def carN (s : Nat) : Nat := if 65535 < s then s - 65535 else s
theorem carN_le {s : Nat} (h : s ≤ 131070) : carN s ≤ 65535 := by unfold carN; split <;> omega
theorem p_wraps_u32 (n : Int) (h0 : 0 ≤ n) (h1 : n < 4294967296) : IntKind.u32.wrap n = n := by rw [IntKind.wrap_u32]; omega
theorem and_low16 (s : Nat) (h : s ≤ 131070) : bits .and .u32 s 65535 = ((s % 65536 : Nat) : Int) := by
  have h1 := bits_mask .u32 32 (by decide) (fun n h0 h1 => p_wraps_u32 n h0 (by omega)) 16 (by omega) (s : Int) (by omega) (by omega)
  simp only [Int.reducePow, Int.reduceSub] at h1
  rw [h1]; omega
theorem carry_any (s : Nat) (h : s ≤ 131070) (w : World) : Calls Try.prog 35 #[.int .u32 (s : Nat)] w fun e w' => e = .returned (.int .u32 (carN s : Nat)) ∧ w = w' := by
  have h1 := and_low16 s h
  have HC : Hid (((carN s : Nat) : Int) = (s : Int) % 65536 + (s : Int) / 65536) := Lib.hid (by unfold carN; split <;> omega)
  go_enter Try.func35, Try.ntmps35
  go_wp2_with fail
  go_ret
  exact ⟨by rw [HC.out]; rfl, rfl⟩

theorem carry_anyI (v : Int) (s : Nat) (hv : v = (s : Nat)) (h : s ≤ 131070) (w : World) : Calls Try.prog 35 #[.int .u32 v] w fun e w' => e = .returned (.int .u32 (carN s : Nat)) ∧ w = w' := by
  subst hv
  exact carry_any s h w
theorem p_quietQ {P : Program} {f : FuncId} {args : Array Value} {w : World} {n : Nat} {v : Value}
    (h : Calls P f args (w.drewN n) fun e w' => e = .returned v ∧ w.drewN n = w') : Calls P f args (w.drewN n) fun e w'' => e = .returned v ∧ ∃ m, w'' = w.drewN m :=
  h.mono fun _ _ ⟨he, hm⟩ => ⟨he, n, hm.symm⟩
theorem not_u16 (s : Nat) (h : s ≤ 65535) : bits .xor .u16 IntKind.u16.max (s : Int) = 65535 - (s : Int) := by
  have e1 : BitVec.ofInt 16 (s : Int) = BitVec.ofNat 16 s := by simp [BitVec.ofInt_natCast]
  have e2 : BitVec.ofInt 16 IntKind.u16.max = BitVec.allOnes 16 := by decide
  show IntKind.u16.wrap ((BitVec.ofInt 16 IntKind.u16.max ^^^ BitVec.ofInt 16 (s : Int)).toNat : Int) = _
  rw [e1, e2, BitVec.allOnes_xor, BitVec.toNat_not, BitVec.toNat_ofNat, Nat.mod_eq_of_lt (by omega)]
  have : IntKind.u16.wrap ((2 ^ 16 - 1 - s : Nat) : Int) = ((2 ^ 16 - 1 - s : Nat) : Int) := by rw [IntKind.wrap_u16]; omega
  rw [this]
  omega

/-- the sum behind j words -/
def sumW (X : Nat → Nat) : Nat → Nat
  | 0 => 0
  | j + 1 => carN (sumW X j + X (2 * j) * 256 + X (2 * j + 1))
theorem sumW_le (X : Nat → Nat) (hX : ∀ k, X k < 256) : ∀ j, sumW X j ≤ 65535
  | 0 => by simp [sumW]
  | j + 1 => by
    have := sumW_le X hX j
    have h1 := hX (2 * j)
    have h2 := hX (2 * j + 1)
    exact carN_le (by omega)
/-- the sum of n bytes -/
def sumN16 (X : Nat → Nat) (n : Nat) : Nat := if n % 2 = 0 then sumW X (n / 2) else carN (sumW X (n / 2) + X (n - 1) * 256)
theorem sumN16_le (X : Nat → Nat) (hX : ∀ k, X k < 256) (n : Nat) : sumN16 X n ≤ 65535 := by
  unfold sumN16
  have := sumW_le X hX (n / 2)
  have h1 := hX (n - 1)
  split
  · exact this
  · exact carN_le (by omega)

set_option maxRecDepth 100000 in
set_option maxHeartbeats 4000000 in
theorem pcheck_any (a : Option Addr) (len cap b o : Nat) (X : Nat → Nat) (w : World) (hb : ByIn w a len cap b o X) :
    Calls Try.prog 32 #[.slice a len cap] w fun e w' => e = .returned (.int .u16 ((65535 : Int) - (sumN16 X len : Nat))) ∧ Below w.heap.size w w' := by
  have hm := hb.max
  have hl := hb.le
  unfold maxLen at hm
  have HB := Lib.hid hb
  clear hb
  obtain ⟨S, hS⟩ : ∃ S, S = sumN16 X len := ⟨_, rfl⟩
  have hS9 : S ≤ 65535 := by rw [hS]; exact sumN16_le X HB.out.bd len
  have HSN := Lib.hid hS
  rw [← hS]
  clear hS
  go_enter Try.func32, Try.ntmps32
  go_wp2_with fail
  go_step3
  go_wp2_with fail
  go_step3
  go_wp2_with fail
  go_loopw [3, 4] (fun s i wr => ∃ j : Nat, 2 * j ≤ len ∧ i = .int .i64 ((2 * j : Nat) : Int) ∧ s = .int .u32 (sumW X j : Nat) ∧ Below w.heap.size w wr) (fun _ i _ => len - (intOf i).toNat)
  case atStart => exact ⟨0, by omega, rfl, rfl, Below.refl _ _⟩
  case round =>
    obtain ⟨j, hj, rfl, rfl, hB⟩ := hrel
    have hsl := sumW_le X HB.out.bd j
    obtain ⟨s, hs⟩ : ∃ s, s = sumW X j := ⟨_, rfl⟩
    rw [← hs] at hsl ⊢
    have HSJ := Lib.hid hs
    have HBB := Lib.hid hB
    clear hs hB
    by_cases h0 : len = 2 * j
    · have d0 : ((len : Int) - ((2 * j : Nat) : Int) == 0) = true := by simp; omega
      have hn := not_u16 s hsl
      have HS2 : Hid (S = s) := Lib.hid (by rw [HSN.out, HSJ.out, sumN16, if_pos (by omega), h0]; simp)
      go_wp2_with fail
      go_ret
      exact ⟨by rw [HS2.out]; rfl, HBB.out⟩
    · have d0 : ((len : Int) - ((2 * j : Nat) : Int) == 0) = false := by simp; omega
      obtain ⟨e0, e1⟩ := HB.out.at_ (by omega)
      subst e0
      have HBr := Lib.hid (HB.out.below HBB.out)
      have k0 := HBr.out.cell (2 * j) (by omega)
      have x0 := HB.out.bd (2 * j)
      obtain ⟨x, hx⟩ : ∃ x, x = X (2 * j) := ⟨_, rfl⟩
      rw [← hx] at k0 x0
      have HX := Lib.hid hx
      clear hx
      by_cases h1 : len = 2 * j + 1
      · have d1 : ((len : Int) - ((2 * j : Nat) : Int) == 1) = true := by simp; omega
        have hcl : carN (s + x * 256) ≤ 65535 := carN_le (by omega)
        have HS2 : Hid (S = carN (s + x * 256)) := Lib.hid (by rw [HSN.out, HSJ.out, sumN16, if_neg (by omega), HX.out, h1, show (2 * j + 1) / 2 = j by omega, show 2 * j + 1 - 1 = 2 * j by omega])
        have HC : Hid (∀ v W, v = ((s + x * 256 : Nat) : Int) → Calls Try.prog 35 #[.int .u32 v] W fun e w' => e = .returned (.int .u32 (carN (s + x * 256) : Nat)) ∧ W = w') := Lib.hid (fun v W hv => carry_anyI v _ hv (by omega) W)
        obtain ⟨c, hc⟩ : ∃ c, c = carN (s + x * 256) := ⟨_, rfl⟩
        rw [← hc] at hcl HS2 HC
        clear hc
        have hn := not_u16 c hcl
        go_wp2_with (go_at_call 35; refine (HC.out _ _ (by omega)).mono ?_; rintro e w1 ⟨rfl, rfl⟩)
        go_ret
        exact ⟨by rw [HS2.out]; rfl, HBB.out⟩
      · have d1 : ((len : Int) - ((2 * j : Nat) : Int) == 1) = false := by simp; omega
        have k1 := HBr.out.cell (2 * j + 1) (by omega)
        have y0 := HB.out.bd (2 * j + 1)
        obtain ⟨y, hy⟩ : ∃ y, y = X (2 * j + 1) := ⟨_, rfl⟩
        rw [← hy] at k1 y0
        have HY := Lib.hid hy
        clear hy
        have HC : Hid (∀ v W, v = ((s + x * 256 + y : Nat) : Int) → Calls Try.prog 35 #[.int .u32 v] W fun e w' => e = .returned (.int .u32 (carN (s + x * 256 + y) : Nat)) ∧ W = w') := Lib.hid (fun v W hv => carry_anyI v _ hv (by omega) W)
        have HN : Hid (sumW X (j + 1) = carN (s + x * 256 + y)) := Lib.hid (by rw [sumW, HSJ.out, HX.out, HY.out])
        obtain ⟨c, hc⟩ : ∃ c, c = carN (s + x * 256 + y) := ⟨_, rfl⟩
        rw [← hc] at HN HC
        clear hc
        go_wp2_with fail
        go_quiet ((go_at_call 35; exact p_quietQ (HC.out _ _ (by omega))))
        go_wp2_with fail
        go_roundw
        case rel => exact ⟨j + 1, by omega, by go_num, by rw [HN.out], below_drewN HBB.out _⟩
        case measure => first | (simp [intOf]; done) | (simp [intOf]; omega)
end Go.Proofs.Ytcimcmfibinehaa
