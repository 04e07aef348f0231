/-
  Package conf: the set of rows.
-/
import Derived.Test.YtnaoajdbopminaaRw4
import Derived.Test.YtnaoajdbopminaaRw3
namespace Go.Proofs.Ytnaoajdbopminaa
open Go.RowKit
set_option linter.unusedSimpArgs false
set_option linter.unusedVariables false

theorem rowsB_head {base term : Int} {len : Nat} {E : Nat → Ent} (h : rowsB base term len E = true) : 0 ≤ base ∧ base ≤ 1099511627776 - len ∧ len ≤ 4096 ∧ 0 ≤ term := by
  unfold rowsB headB at h
  simp at h
  omega
theorem rowsE_ok {base term : Int} {len : Nat} {E : Nat → Ent} (h : rowsB base term len E = true) : rowsE base term len E = 0 := by unfold rowsE; rw [h]; rfl
theorem rowsE_bad {base term : Int} {len : Nat} {E : Nat → Ent} (h : rowsB base term len E = false) : rowsE base term len E = 90 := by unfold rowsE; rw [h]; rfl

/-- the box of rows, behind calls that make memory -/
def Box (w : World) (base term : Int) (v : Value) (W : World) : Prop :=
  (W.cell? ⟨w.heap.size, 0, none⟩ = some (.int .i64 base) ∧ W.cell? ⟨w.heap.size, 1, none⟩ = some (.int .i64 term) ∧ W.cell? ⟨w.heap.size, 2, none⟩ = some v) ∧ w.heap.size < W.heap.size ∧ Below w.heap.size w W
theorem Box.mk0 (w : World) (base term : Int) (v : Value) : Box w base term v (w.alloc (.cells #[.int .i64 base, .int .i64 term, v] 63)) :=
  ⟨⟨by go_simp, by go_simp, by go_simp⟩, by simp, (Below.refl _ _).alloc (Nat.le_refl _) _⟩
theorem Box.step {w A B : World} {base term : Int} {v : Value} (q : Box w base term v A) (h : Below A.heap.size A B) : Box w base term v B := by
  obtain ⟨⟨q0, q1, q2⟩, q3, q4⟩ := q
  exact ⟨⟨(h.cell (p := ⟨_, 0, none⟩) q3).trans q0, (h.cell (p := ⟨_, 1, none⟩) q3).trans q1, (h.cell (p := ⟨_, 2, none⟩) q3).trans q2⟩, by have := h.size; omega, q4.trans (h.mono q4.size)⟩
theorem Box.drew {w A : World} {base term : Int} {v : Value} (q : Box w base term v A) : Box w base term v A.drew := ⟨q.1, q.2.1, q.2.2.drew⟩

set_option maxRecDepth 100000 in
set_option maxHeartbeats 2000000 in
theorem below_drewN {B : Nat} {w X : World} (h : Below B w X) (n : Nat) : Below B w (X.drewN n) := ⟨h.os, h.tape, h.output, h.size, h.block⟩
/-- the last entry that tells a set -/
def latK (E : Nat → Ent) : Nat → Option Nat
  | 0 => none
  | m + 1 => if (E m).k = 1 then some m else latK E m
def latS (base term : Int) (len : Nat) (E : Nat → Ent) (s0 : Int) : Int := if rowsB base term len E = true then (match latK E len with | none => s0 | some m => (E m).st) else 0
def latI (base term : Int) (len : Nat) (E : Nat → Ent) : Int := if rowsB base term len E = true then (match latK E len with | none => base | some m => base + m + 1) else 0

set_option maxRecDepth 100000 in
set_option maxHeartbeats 8000000 in
theorem latest_any (base term : Int) (a : Option Addr) (len cap b o : Nat) (E : Nat → Ent) (s0 : Int) (w : World) (hs : EntsIn w a len cap b o E) :
    Calls Try.prog 44 #[.agg #[.int .i64 base, .int .i64 term, .slice a len cap], .int .u8 s0] w fun e w' => e = .returned (.tuple #[.int .u8 (latS base term len E s0), .int .i64 (latI base term len E), .int .i64 (rowsE base term len E)]) ∧ Below w.heap.size w w' := by
  have hm := hs.max
  have hl := hs.le
  unfold maxLen at hm
  have HS := Lib.hid hs
  have HQ := Lib.hid (Box.mk0 w base term (.slice a len cap))
  have HB0 : Hid (Below w.heap.size w (w.alloc (.cells #[.int .i64 base, .int .i64 term, .slice a len cap] 63))) := Lib.hid ((Below.refl _ _).alloc (Nat.le_refl _) _)
  cases hr : rowsB base term len E
  · have C1 : Hid (∀ W, EntsIn W a len cap b o E → Calls Try.prog 75 #[.agg #[.int .i64 base, .int .i64 term, .slice a len cap]] W fun e w' => e = .returned (.int .i64 90) ∧ Below W.heap.size W w') := Lib.hid (fun W h => by have := check_any base term a len cap b o E W h; rwa [rowsE_bad hr] at this)
    unfold latS latI
    rw [rowsE_bad hr, if_neg (by rw [hr]; simp), if_neg (by rw [hr]; simp)]
    clear hs hr
    go_enter Try.func44, Try.ntmps44
    go_wp2_with (go_at_call 75; refine Calls.mono (C1.out _ (HS.out.below HB0.out)) ?_; rintro e W1 ⟨rfl, hW1⟩)
    go_ret3
    exact ⟨rfl, HB0.out.trans (hW1.mono HB0.out.size)⟩
  · obtain ⟨b0, b1, h1, t0⟩ := rowsB_head hr
    have C1 : Hid (∀ W, EntsIn W a len cap b o E → Calls Try.prog 75 #[.agg #[.int .i64 base, .int .i64 term, .slice a len cap]] W fun e w' => e = .returned (.int .i64 0) ∧ Below W.heap.size W w') := Lib.hid (fun W h => by have := check_any base term a len cap b o E W h; rwa [rowsE_ok hr] at this)
    have HLS : Hid (∀ q, latK E len = q → latS base term len E s0 = (match q with | none => s0 | some m => (E m).st) ∧ latI base term len E = (match q with | none => base | some m => base + m + 1)) := Lib.hid (fun q hq => by unfold latS latI; rw [if_pos hr, if_pos hr, hq]; exact ⟨rfl, rfl⟩)
    rw [rowsE_ok hr]
    obtain ⟨S, hS⟩ : ∃ S, S = latS base term len E s0 := ⟨_, rfl⟩
    obtain ⟨I, hI⟩ : ∃ I, I = latI base term len E := ⟨_, rfl⟩
    rw [← hS, ← hI] at HLS ⊢
    clear hs hr hS hI
    go_enter Try.func44, Try.ntmps44
    go_wp2_with (go_at_call 75; refine Calls.mono (C1.out _ (HS.out.below HB0.out)) ?_; rintro e W1 ⟨rfl, hW1⟩; have HQ1 := Lib.hid (HQ.out.step hW1); obtain ⟨⟨f0, f1, f2⟩, f3, _⟩ := id HQ1.out)
    have HB1 := Lib.hid (HB0.out.trans (hW1.mono HB0.out.size))
    clear hW1
    go_loopw [7] (fun i wr => ∃ m : Nat, m ≤ len ∧ i = .int .i64 ((m : Int) - 1) ∧ latK E len = latK E m ∧ Box w base term (.slice a len cap) wr ∧ Below w.heap.size w wr) (fun i _ => (intOf i + 1).toNat)
    case atStart => exact ⟨len, Nat.le_refl _, by first | rfl | go_num, rfl, HQ1.out, HB1.out⟩
    case round =>
      obtain ⟨m, hml, rfl, hlk, hbox, hbel⟩ := hrel
      clear f0 f1 f2 f3
      obtain ⟨⟨f0, f1, f2⟩, f3, _⟩ := id hbox
      have HBX := Lib.hid hbox
      have HBL := Lib.hid hbel
      clear hbox
      cases m with
      | zero =>
        have hq := HLS.out none (by rw [hlk]; rfl)
        obtain ⟨q1, q2⟩ := hq
        simp only at q1 q2
        have bz : decide ((0 : Int) ≤ ((0 : Nat) : Int) - 1) = false := by decide
        subst q1 q2
        clear hlk hbel
        go_wp2_with fail
        go_quiet (fail)
        go_wp2_with fail
        go_ret3
        exact ⟨rfl, below_drewN HBL.out _⟩
      | succ j =>
        rw [show (((j + 1 : Nat) : Int) - 1) = (j : Int) by omega]
        obtain ⟨e0, e1⟩ := HS.out.at_ (by omega)
        subst e0
        obtain ⟨k0, k1, k2, k3, k4⟩ := (HS.out.below hbel).cell j (by omega)
        obtain ⟨en, hen⟩ : ∃ en, en = E j := ⟨_, rfl⟩
        rw [← hen] at k0 k1 k2 k3 k4
        obtain ⟨et, ek, es, est, eda, edl, edc⟩ := en
        simp only at k0 k1 k2 k3 k4
        by_cases hkd : ek = 1
        · have hq := HLS.out (some j) (by rw [hlk]; unfold latK; rw [← hen]; simp [hkd])
          obtain ⟨q1, q2⟩ := hq
          simp only [← hen] at q1 q2
          subst hkd q1 q2
          clear hlk hbel hen
          go_wp2_with fail
          go_quiet (fail)
          go_wp2_with fail
          go_ret3
          exact ⟨rfl, below_drewN (HBL.out.alloc HBL.out.size _) _⟩
        · have hlk2 : latK E len = latK E j := by rw [hlk]; show (if (E j).k = 1 then some j else latK E j) = _; rw [← hen]; simp [hkd]
          have bk : (ek == 1) = false := by simpa using hkd
          clear hlk hbel hen
          go_wp2_with fail
          go_roundw
          case rel => exact ⟨j, by omega, by first | rfl | go_num, hlk2, HBX.out.step ((Below.refl _ _).alloc (Nat.le_refl _) _), HBL.out.alloc HBL.out.size _⟩
          case measure => first | (simp [intOf]; done) | (simp [intOf]; omega)

set_option maxRecDepth 100000 in
set_option maxHeartbeats 8000000 in
theorem rlatest_any (base term : Int) (a : Option Addr) (len cap b o : Nat) (E : Nat → Ent) (s0 : Int) (w : World) (hs : EntsIn w a len cap b o E) :
    Calls Try.prog 45 #[.agg #[.int .i64 base, .int .i64 term, .slice a len cap], .int .u8 s0] w fun e w' => e = .returned (.tuple #[.int .u8 (latS base term len E s0), .int .i64 (latI base term len E), .int .i64 (rowsE base term len E)]) ∧ Below w.heap.size w w' := by
  have hm := hs.max
  have hl := hs.le
  unfold maxLen at hm
  have HS := Lib.hid hs
  have HQ := Lib.hid (Box.mk0 w base term (.slice a len cap))
  have HB0 : Hid (Below w.heap.size w (w.alloc (.cells #[.int .i64 base, .int .i64 term, .slice a len cap] 63))) := Lib.hid ((Below.refl _ _).alloc (Nat.le_refl _) _)
  cases hr : rowsB base term len E
  · have C1 : Hid (∀ W, EntsIn W a len cap b o E → Calls Try.prog 76 #[.agg #[.int .i64 base, .int .i64 term, .slice a len cap]] W fun e w' => e = .returned (.int .i64 90) ∧ Below W.heap.size W w') := Lib.hid (fun W h => by have := rcheck_any base term a len cap b o E W h; rwa [rowsE_bad hr] at this)
    unfold latS latI
    rw [rowsE_bad hr, if_neg (by rw [hr]; simp), if_neg (by rw [hr]; simp)]
    clear hs hr
    go_enter Try.func45, Try.ntmps45
    go_wp2_with (go_at_call 76; refine Calls.mono (C1.out _ (HS.out.below HB0.out)) ?_; rintro e W1 ⟨rfl, hW1⟩)
    go_ret3
    exact ⟨rfl, HB0.out.trans (hW1.mono HB0.out.size)⟩
  · obtain ⟨b0, b1, h1, t0⟩ := rowsB_head hr
    have C1 : Hid (∀ W, EntsIn W a len cap b o E → Calls Try.prog 76 #[.agg #[.int .i64 base, .int .i64 term, .slice a len cap]] W fun e w' => e = .returned (.int .i64 0) ∧ Below W.heap.size W w') := Lib.hid (fun W h => by have := rcheck_any base term a len cap b o E W h; rwa [rowsE_ok hr] at this)
    have HLS : Hid (∀ q, latK E len = q → latS base term len E s0 = (match q with | none => s0 | some m => (E m).st) ∧ latI base term len E = (match q with | none => base | some m => base + m + 1)) := Lib.hid (fun q hq => by unfold latS latI; rw [if_pos hr, if_pos hr, hq]; exact ⟨rfl, rfl⟩)
    rw [rowsE_ok hr]
    obtain ⟨S, hS⟩ : ∃ S, S = latS base term len E s0 := ⟨_, rfl⟩
    obtain ⟨I, hI⟩ : ∃ I, I = latI base term len E := ⟨_, rfl⟩
    rw [← hS, ← hI] at HLS ⊢
    clear hs hr hS hI
    go_enter Try.func45, Try.ntmps45
    go_wp2_with (go_at_call 76; refine Calls.mono (C1.out _ (HS.out.below HB0.out)) ?_; rintro e W1 ⟨rfl, hW1⟩; have HQ1 := Lib.hid (HQ.out.step hW1); obtain ⟨⟨f0, f1, f2⟩, f3, _⟩ := id HQ1.out)
    have HB1 := Lib.hid (HB0.out.trans (hW1.mono HB0.out.size))
    clear hW1
    go_loopw [7] (fun i wr => ∃ m : Nat, m ≤ len ∧ i = .int .i64 ((m : Int) - 1) ∧ latK E len = latK E m ∧ Box w base term (.slice a len cap) wr ∧ Below w.heap.size w wr) (fun i _ => (intOf i + 1).toNat)
    case atStart => exact ⟨len, Nat.le_refl _, by first | rfl | go_num, rfl, HQ1.out, HB1.out⟩
    case round =>
      obtain ⟨m, hml, rfl, hlk, hbox, hbel⟩ := hrel
      clear f0 f1 f2 f3
      obtain ⟨⟨f0, f1, f2⟩, f3, _⟩ := id hbox
      have HBX := Lib.hid hbox
      have HBL := Lib.hid hbel
      clear hbox
      cases m with
      | zero =>
        have hq := HLS.out none (by rw [hlk]; rfl)
        obtain ⟨q1, q2⟩ := hq
        simp only at q1 q2
        have bz : decide ((0 : Int) ≤ ((0 : Nat) : Int) - 1) = false := by decide
        subst q1 q2
        clear hlk hbel
        go_wp2_with fail
        go_quiet (fail)
        go_wp2_with fail
        go_ret3
        exact ⟨rfl, below_drewN HBL.out _⟩
      | succ j =>
        rw [show (((j + 1 : Nat) : Int) - 1) = (j : Int) by omega]
        obtain ⟨e0, e1⟩ := HS.out.at_ (by omega)
        subst e0
        obtain ⟨k0, k1, k2, k3, k4⟩ := (HS.out.below hbel).cell j (by omega)
        obtain ⟨en, hen⟩ : ∃ en, en = E j := ⟨_, rfl⟩
        rw [← hen] at k0 k1 k2 k3 k4
        obtain ⟨et, ek, es, est, eda, edl, edc⟩ := en
        simp only at k0 k1 k2 k3 k4
        by_cases hkd : ek = 1
        · have hq := HLS.out (some j) (by rw [hlk]; unfold latK; rw [← hen]; simp [hkd])
          obtain ⟨q1, q2⟩ := hq
          simp only [← hen] at q1 q2
          subst hkd q1 q2
          clear hlk hbel hen
          go_wp2_with fail
          go_quiet (fail)
          go_wp2_with fail
          go_ret3
          exact ⟨rfl, below_drewN HBL.out _⟩
        · have hlk2 : latK E len = latK E j := by rw [hlk]; show (if (E j).k = 1 then some j else latK E j) = _; rw [← hen]; simp [hkd]
          have bk : (ek == 1) = false := by simpa using hkd
          clear hlk hbel hen
          go_wp2_with fail
          go_roundw
          case rel => exact ⟨j, by omega, by first | rfl | go_num, hlk2, HBX.out, HBL.out⟩
          case measure => first | (simp [intOf]; done) | (simp [intOf]; omega)
end Go.Proofs.Ytnaoajdbopminaa
