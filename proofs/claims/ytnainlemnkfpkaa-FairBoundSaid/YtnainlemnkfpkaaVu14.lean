/-
  The document's answer: which flow is picked.
-/
import Derived.Test.YtnainlemnkfpkaaVu13
import Derived.Test.YtnainlemnkfpkaaVu9
namespace Go.Proofs.Ytnainlemnkfpkaa
open Go.RowKit
set_option linter.unusedSimpArgs false
set_option linter.unusedVariables false

def leastI (T : Nat → TagsE) (R : Nat → Bool) (k : Nat) : Int := match firstS R (ltS T) k with
  | none => -1
  | some b => (T b).s
theorem leastI_none {T : Nat → TagsE} {R : Nat → Bool} {k : Nat} (h : firstS R (ltS T) k = none) : leastI T R k = -1 := by unfold leastI; rw [h]
theorem leastI_some {T : Nat → TagsE} {R : Nat → Bool} {k b : Nat} (h : firstS R (ltS T) k = some b) : leastI T R k = (T b).s := by unfold leastI; rw [h]

set_option maxRecDepth 100000 in
set_option maxHeartbeats 8000000 in
theorem rpick_none (V : Int) (a : Option Addr) (n c b o : Nat) (T : Nat → TagsE) (ra : Option Addr) (rc rb ro : Nat) (R : Nat → Bool) (w : World) (hs : TagsIn w a n c b o T) (hr : BoolsIn w ra n rc rb ro R) (hok : vokB V n T = true) (hke : firstS R (ltS T) n = none) :
    Calls Try.prog 33 #[.agg #[.int .i64 V, .slice a n c], .slice ra n rc] w (PickOut w 0 0 zeroT 0 false) := by
  have hm := hs.max
  have hl := hs.le
  unfold maxLen at hm
  have hrm := hr.max
  have hrl := hr.le
  unfold maxLen at hrm
  have HQ := Lib.hid (VB2.mk0 w #[.int .i64 V, .slice a n c] #[.int .i64 0, .slice none 0 0] 39 39)
  have HS := Lib.hid hs
  have HR := Lib.hid hr
  have HV := Lib.hid hok
  have HKE := Lib.hid hke
  have C1 : Hid (∀ W, TagsIn W a n c b o T → Calls Try.prog 51 #[.agg #[.int .i64 V, .slice a n c]] W fun e w' => e = .returned (.bool true) ∧ Below W.heap.size W w') := Lib.hid (fun W h => by rw [← hok]; exact rcheck_any V a n c b o T W h)
  clear hs hr hok hke
  go_enter Try.func33, Try.ntmps33
  go_wp2_with (go_at_call 51; refine Calls.mono (C1.out _ (HS.out.below HQ.out.2.2)) ?_; rintro e W1 ⟨rfl, hW1⟩; have HQ1 := Lib.hid (HQ.out.step hW1); have r0 : W1.cell? ⟨w.heap.size, 0, none⟩ = some (.int .i64 V) := HQ1.out.1.1 0; have r1 : W1.cell? ⟨w.heap.size, 1, none⟩ = some (.slice a n c) := HQ1.out.1.1 1; have z0 := HQ1.out.1.2.2; have z1 := HQ1.out.2.1.2.2)
  go_loop [7, 8] (fun q i => ∃ k : Nat, k ≤ n ∧ i = .int .i64 k ∧ q = .int .i64 (leastI T R k)) (fun _ i => n - (intOf i).toNat)
  case atStart => exact ⟨0, Nat.zero_le _, rfl, rfl⟩
  case round =>
    obtain ⟨k, hk, rfl, rfl⟩ := hrel
    by_cases hlt : k < n
    · obtain ⟨e0, e1⟩ := HS.out.at_ (by omega)
      obtain ⟨e2, e3⟩ := HR.out.at_ (by omega)
      subst e0 e2
      have k0 := ((HS.out.below HQ1.out.2.2).cell k hlt).1
      have k2 := (HR.out.below HQ1.out.2.2).cell k hlt
      obtain ⟨s, hs⟩ : ∃ s, s = (T k).s := ⟨_, rfl⟩
      obtain ⟨r, hr⟩ : ∃ r, r = R k := ⟨_, rfl⟩
      rw [← hs] at k0
      rw [← hr] at k2
      have hlk : n ≤ 9223372036854775807 := by omega
      cases hb : firstS R (ltS T) k with
      | none =>
        rw [leastI_none hb]
        cases r
        · have HF : Hid (leastI T R (k + 1) = -1) := Lib.hid (leastI_none (firstS_n0 hb hr.symm))
          clear hb hr hs
          go_wp2_with fail
          go_round
          case rel => exact ⟨k + 1, by omega, by go_num, by rw [HF.out]⟩
          case measure => simp [intOf]; omega
        · have HF : Hid (leastI T R (k + 1) = s) := Lib.hid (by rw [hs]; exact leastI_some (firstS_n1 hb hr.symm))
          clear hb hr hs
          go_wp2_with fail
          go_round
          case rel => exact ⟨k + 1, by omega, by go_num, by rw [HF.out]⟩
          case measure => simp [intOf]; omega
      | some m =>
        rw [leastI_some hb]
        have hm2 := vok_at HV.out (k := m) (by have := (firstS_some hb).1; omega)
        obtain ⟨s2, hs2⟩ : ∃ s2, s2 = (T m).s := ⟨_, rfl⟩
        rw [← hs2] at hm2 ⊢
        have b1 : decide (s2 < 0) = false := by simp; omega
        by_cases hc : (r && decide (s < s2)) = true
        · have HF : Hid (leastI T R (k + 1) = s) := Lib.hid (by rw [hs]; exact leastI_some (firstS_s1 hb (by rw [← hr]; unfold ltS; rw [← hs, ← hs2]; exact hc)))
          simp at hc
          obtain ⟨rfl, hc⟩ := hc
          clear hb hr hs hs2
          go_wp2_with fail
          go_round
          case rel => exact ⟨k + 1, by omega, by go_num, by rw [HF.out]⟩
          case measure => simp [intOf]; omega
        · have hc' : (r && decide (s < s2)) = false := by simpa using hc
          have HF : Hid (leastI T R (k + 1) = s2) := Lib.hid (by rw [hs2]; exact leastI_some (firstS_s0 hb (by rw [← hr]; unfold ltS; rw [← hs, ← hs2]; exact hc')))
          clear hb hr hs hs2 hc
          cases r
          · clear hc'
            go_wp2_with fail
            go_round
            case rel => exact ⟨k + 1, by omega, by go_num, by rw [HF.out]⟩
            case measure => simp [intOf]; omega
          · have hc2 : decide (s < s2) = false := by simpa using hc'
            clear hc'
            go_wp2_with fail
            go_round
            case rel => exact ⟨k + 1, by omega, by go_num, by rw [HF.out]⟩
            case measure => simp [intOf]; omega
    · obtain rfl : k = n := by omega
      rw [leastI_none HKE.out]
      have y0 := HQ1.out.2.1.1
      have y1 := HQ1.out.2.1.2.1
      have y2 := HQ1.out.2.1.2.2
      go_wp2_with fail
      refine bodyPost_ret (v := .tuple #[.agg #[.int .i64 0, .slice none 0 0], .int .i64 0, .bool false]) (by simp [results, Try.results33, go_sem, y0, y1, y2]) rfl ⟨_, rfl, none, 0, none, rfl, Row.nil _ _ _, (fun _ h => by cases h), ?_⟩
      exact (HQ1.out.2.2.setCell (by simp only; omega) _).setCell (by simp only; omega) _

set_option maxRecDepth 100000 in
set_option maxHeartbeats 8000000 in
theorem rpick_good (V : Int) (a : Option Addr) (n c b o : Nat) (T : Nat → TagsE) (ra : Option Addr) (rc rb ro : Nat) (R : Nat → Bool) (ke m : Nat) (now : Int) (w : World) (hs : TagsIn w a n c b o T) (hn : n * 16 ≤ 140737488351232) (hr : BoolsIn w ra n rc rb ro R) (hok : vokB V n T = true) (hke : firstS R (ltS T) n = some ke)
    (hnow : now = max V (T ke).s) (hm2 : firstS (tkN T R now) (ltF T) n = some m) :
    Calls Try.prog 33 #[.agg #[.int .i64 V, .slice a n c], .slice ra n rc] w (PickOut w now n T m true) := by
  have hm := hs.max
  have hl := hs.le
  unfold maxLen at hm
  have hrm := hr.max
  have hrl := hr.le
  unfold maxLen at hrm
  have HQ := Lib.hid (VB2.mk0 w #[.int .i64 V, .slice a n c] #[.int .i64 0, .slice none 0 0] 39 39)
  have HS := Lib.hid hs
  have HR := Lib.hid hr
  have HV := Lib.hid hok
  have HKE := Lib.hid hke
  have C1 : Hid (∀ W, TagsIn W a n c b o T → Calls Try.prog 51 #[.agg #[.int .i64 V, .slice a n c]] W fun e w' => e = .returned (.bool true) ∧ Below W.heap.size W w') := Lib.hid (fun W h => by rw [← hok]; exact rcheck_any V a n c b o T W h)
  have HN := Lib.hid hnow
  have HM2 := Lib.hid hm2
  have C4 := Lib.hid (fun W h => copied_any V a n c b o T W h hn)
  have hkn := (firstS_some hke).1
  have hkv := vok_at hok hkn
  clear hs hr hok hke hnow hm2
  go_enter Try.func33, Try.ntmps33
  go_wp2_with (go_at_call 51; refine Calls.mono (C1.out _ (HS.out.below HQ.out.2.2)) ?_; rintro e W1 ⟨rfl, hW1⟩; have HQ1 := Lib.hid (HQ.out.step hW1); have r0 : W1.cell? ⟨w.heap.size, 0, none⟩ = some (.int .i64 V) := HQ1.out.1.1 0; have r1 : W1.cell? ⟨w.heap.size, 1, none⟩ = some (.slice a n c) := HQ1.out.1.1 1; have z0 := HQ1.out.1.2.2; have z1 := HQ1.out.2.1.2.2)
  go_loop [7, 8] (fun q i => ∃ k : Nat, k ≤ n ∧ i = .int .i64 k ∧ q = .int .i64 (leastI T R k)) (fun _ i => n - (intOf i).toNat)
  case atStart => exact ⟨0, Nat.zero_le _, rfl, rfl⟩
  case round =>
    obtain ⟨k, hk, rfl, rfl⟩ := hrel
    by_cases hlt : k < n
    · obtain ⟨e0, e1⟩ := HS.out.at_ (by omega)
      obtain ⟨e2, e3⟩ := HR.out.at_ (by omega)
      subst e0 e2
      have k0 := ((HS.out.below HQ1.out.2.2).cell k hlt).1
      have k2 := (HR.out.below HQ1.out.2.2).cell k hlt
      obtain ⟨s, hs⟩ : ∃ s, s = (T k).s := ⟨_, rfl⟩
      obtain ⟨r, hr⟩ : ∃ r, r = R k := ⟨_, rfl⟩
      rw [← hs] at k0
      rw [← hr] at k2
      have hlk : n ≤ 9223372036854775807 := by omega
      cases hb : firstS R (ltS T) k with
      | none =>
        rw [leastI_none hb]
        cases r
        · have HF : Hid (leastI T R (k + 1) = -1) := Lib.hid (leastI_none (firstS_n0 hb hr.symm))
          clear hb hr hs
          go_wp2_with fail
          go_round
          case rel => exact ⟨k + 1, by omega, by go_num, by rw [HF.out]⟩
          case measure => simp [intOf]; omega
        · have HF : Hid (leastI T R (k + 1) = s) := Lib.hid (by rw [hs]; exact leastI_some (firstS_n1 hb hr.symm))
          clear hb hr hs
          go_wp2_with fail
          go_round
          case rel => exact ⟨k + 1, by omega, by go_num, by rw [HF.out]⟩
          case measure => simp [intOf]; omega
      | some m =>
        rw [leastI_some hb]
        have hm2 := vok_at HV.out (k := m) (by have := (firstS_some hb).1; omega)
        obtain ⟨s2, hs2⟩ : ∃ s2, s2 = (T m).s := ⟨_, rfl⟩
        rw [← hs2] at hm2 ⊢
        have b1 : decide (s2 < 0) = false := by simp; omega
        by_cases hc : (r && decide (s < s2)) = true
        · have HF : Hid (leastI T R (k + 1) = s) := Lib.hid (by rw [hs]; exact leastI_some (firstS_s1 hb (by rw [← hr]; unfold ltS; rw [← hs, ← hs2]; exact hc)))
          simp at hc
          obtain ⟨rfl, hc⟩ := hc
          clear hb hr hs hs2
          go_wp2_with fail
          go_round
          case rel => exact ⟨k + 1, by omega, by go_num, by rw [HF.out]⟩
          case measure => simp [intOf]; omega
        · have hc' : (r && decide (s < s2)) = false := by simpa using hc
          have HF : Hid (leastI T R (k + 1) = s2) := Lib.hid (by rw [hs2]; exact leastI_some (firstS_s0 hb (by rw [← hr]; unfold ltS; rw [← hs, ← hs2]; exact hc')))
          clear hb hr hs hs2 hc
          cases r
          · clear hc'
            go_wp2_with fail
            go_round
            case rel => exact ⟨k + 1, by omega, by go_num, by rw [HF.out]⟩
            case measure => simp [intOf]; omega
          · have hc2 : decide (s < s2) = false := by simpa using hc'
            clear hc'
            go_wp2_with fail
            go_round
            case rel => exact ⟨k + 1, by omega, by go_num, by rw [HF.out]⟩
            case measure => simp [intOf]; omega
    · obtain rfl : k = n := by omega
      rw [leastI_some HKE.out]
      obtain ⟨s, hs⟩ : ∃ s, s = (T ke).s := ⟨_, rfl⟩
      have hn1 := HN.out
      rw [← hs] at hkv hn1 ⊢
      have b1 : decide (s < 0) = false := by simp; omega
      have hif : (if V < s then s else V) = now := by rw [hn1]; split <;> omega
      clear hs hn1
      go_wp2_with fail
      go_at_call 52
      refine Calls.mono (C4.out _ (HS.out.below HQ1.out.2.2)) ?_
      rintro e W5 ⟨v5, rfl, hV5⟩
      obtain ⟨a5, c5, ob5, rfl, hR5, hO5, hB5⟩ := hV5
      have HQ5 := Lib.hid (HQ1.out.step hB5)
      have T3 := own_k hR5 hkn
      obtain ⟨g5, rfl, rfl, hg5, _, _, _, _⟩ := T3
      have hgo := hO5 g5 rfl
      have HRR := Lib.hid hR5
      have zz := HQ1.out.2.1.2.2
      clear r0 r1 z0 z1 hR5 hO5 hB5
      have r0 : W5.cell? ⟨w.heap.size, 0, none⟩ = some (.int .i64 V) := HQ5.out.1.1 0
      have z0 := HQ5.out.1.2.2
      go_wp2_with fail
      have zz5 := HQ1.out.2.1.2.2
      obtain ⟨W6, hW6⟩ : ∃ W6, W6 = W5.alloc (.cells #[.int .i64 now, .slice (some ⟨g5, 0, none⟩) k c5] 39) := ⟨_, rfl⟩
      have hB6 : Below W5.heap.size W5 W6 := by rw [hW6]; exact (Below.refl _ _).alloc (Nat.le_refl _) _
      have hO6 : Holds W6 W5.heap.size #[.int .i64 now, .slice (some ⟨g5, 0, none⟩) k c5] := by rw [hW6]; exact tw1 (n := W5.heap.size) (Below.refl _ _) rfl
      have hz6 : W6.heap.size = W5.heap.size + 1 := by rw [hW6]; simp
      rw [← hW6]
      have HQ6 := Lib.hid (HQ5.out.step hB6)
      have HO6 := Lib.hid hO6
      have HB6 := Lib.hid hB6
      clear r0 z0 hW6 hO6 hB6
      go_loopw [10, 11] (fun q i wr => ∃ j : Nat, j ≤ k ∧ i = .int .i64 j ∧ q = .int .i64 (firstI (tkN T R now) (ltF T) j) ∧ Below W6.heap.size W6 wr) (fun _ i _ => k - (intOf i).toNat)
      case atStart => exact ⟨0, Nat.zero_le _, rfl, rfl, Below.refl _ _⟩
      case round =>
        obtain ⟨j, hj, rfl, rfl, hbel⟩ := hrel
        have HQj := Lib.hid (HQ6.out.step hbel)
        have HOj := Lib.hid (Holds.step HO6.out hbel)
        by_cases hlt : j < k
        · obtain ⟨e2, e3⟩ := HR.out.at_ (by omega)
          subst e2
          have k2 := (HR.out.below HQj.out.2.2).cell j hlt
          have T4 := own_k HRR.out hlt
          obtain ⟨g', he', _, hg', k0, k1, _, _⟩ := T4
          obtain rfl := Option.some.inj he'
          have k0 := (hbel.cell (p := ⟨g5, j * 2, none⟩) (by simp only; omega)).trans ((HB6.out.cell (p := ⟨g5, j * 2, none⟩) (by simp only; omega)).trans k0)
          have k1 := (hbel.cell (p := ⟨g5, j * 2 + 1, none⟩) (by simp only; omega)).trans ((HB6.out.cell (p := ⟨g5, j * 2 + 1, none⟩) (by simp only; omega)).trans k1)
          have o0 : wr.cell? ⟨W5.heap.size, 0, none⟩ = some (.int .i64 now) := HOj.out.1 0
          have o1 : wr.cell? ⟨W5.heap.size, 1, none⟩ = some (.slice (some ⟨g5, 0, none⟩) k c5) := HOj.out.1 1
          obtain ⟨s, hs⟩ : ∃ s, s = (T j).s := ⟨_, rfl⟩
          obtain ⟨f, hf⟩ : ∃ f, f = (T j).f := ⟨_, rfl⟩
          obtain ⟨r, hr⟩ : ∃ r, r = R j := ⟨_, rfl⟩
          rw [← hs] at k0
          rw [← hf] at k1
          rw [← hr] at k2
          have hlk : k ≤ 9223372036854775807 := by omega
          have HBL := Lib.hid hbel
          by_cases htk : r = true ∧ s ≤ now
          · obtain ⟨rfl, hsn⟩ := htk
            have htk : tkN T R now j = true := by unfold tkN; rw [← hr, ← hs]; simp; exact hsn
            have bs : decide (s ≤ now) = true := by simpa using hsn
            cases hb : firstS (tkN T R now) (ltF T) j with
            | none =>
              rw [firstI_none hb]
              have HF : Hid (firstI (tkN T R now) (ltF T) (j + 1) = j) := Lib.hid (firstI_some (firstS_n1 hb htk))
              clear hb hr hs hf htk hbel
              go_wp2_with fail
              go_quiet (fail)
              go_wp2_with fail
              go_roundw
              case rel => exact ⟨j + 1, by omega, by go_num, by rw [HF.out], below_drewN HBL.out _⟩
              case measure => simp [intOf]; omega
            | some m2 =>
              rw [firstI_some hb]
              have hml := (firstS_some hb).1
              have T5 := own_k HRR.out (k := m2) (by omega)
              obtain ⟨g', he', _, hg', _, l1, _, _⟩ := T5
              obtain rfl := Option.some.inj he'
              have l1 := (hbel.cell (p := ⟨g5, m2 * 2 + 1, none⟩) (by simp only; omega)).trans ((HB6.out.cell (p := ⟨g5, m2 * 2 + 1, none⟩) (by simp only; omega)).trans l1)
              obtain ⟨f2, hf2⟩ : ∃ f2, f2 = (T m2).f := ⟨_, rfl⟩
              rw [← hf2] at l1
              have bm : decide ((m2 : Int) < 0) = false := by simp
              have i1 : (0 : Int) ≤ (m2 : Int) := by omega
              have i2 : (m2 : Int) < (k : Int) := by omega
              by_cases hc : f < f2
              · have HF : Hid (firstI (tkN T R now) (ltF T) (j + 1) = j) := Lib.hid (firstI_some (firstS_s1 hb (by rw [htk]; unfold ltF; rw [← hf, ← hf2]; simpa using hc)))
                have bc : decide (f < f2) = true := by simpa using hc
                clear hb hr hs hf hf2 htk hbel
                go_wp2_with fail
                go_quiet (fail)
                go_wp2_with fail
                go_roundw
                case rel => exact ⟨j + 1, by omega, by go_num, by rw [HF.out], below_drewN HBL.out _⟩
                case measure => simp [intOf]; omega
              · have HF : Hid (firstI (tkN T R now) (ltF T) (j + 1) = m2) := Lib.hid (firstI_some (firstS_s0 hb (by rw [htk]; unfold ltF; rw [← hf, ← hf2]; simp; omega)))
                have bc : decide (f < f2) = false := by simpa using hc
                clear hb hr hs hf hf2 htk hbel hc
                go_wp2_with fail
                go_quiet (fail)
                go_wp2_with fail
                go_roundw
                case rel => exact ⟨j + 1, by omega, by go_num, by rw [HF.out], below_drewN HBL.out _⟩
                case measure => simp [intOf]; omega
          · have htk2 : tkN T R now j = false := by unfold tkN; rw [← hr, ← hs]; simp at htk ⊢; exact htk
            obtain ⟨B, hB⟩ : ∃ B, B = firstI (tkN T R now) (ltF T) j := ⟨_, rfl⟩
            have HF : Hid (firstI (tkN T R now) (ltF T) (j + 1) = B) := Lib.hid (by
              rw [hB]
              cases hb : firstS (tkN T R now) (ltF T) j with
              | none => rw [firstI_none hb, firstI_none (firstS_n0 hb htk2)]
              | some m2 => rw [firstI_some hb, firstI_some (firstS_s0 hb (by rw [htk2]; rfl))])
            rw [← hB]
            clear hr hs hf hB htk2 hbel
            have hcs : r = false ∨ (r = true ∧ decide (s ≤ now) = false) := by
              cases r
              · exact .inl rfl
              · exact .inr ⟨rfl, by simp at htk ⊢; exact htk⟩
            clear htk
            rcases hcs with rfl | ⟨rfl, bs⟩
            all_goals
              go_wp2_with fail
              go_quiet (fail)
              go_wp2_with fail
              go_roundw
              case rel => exact ⟨j + 1, by omega, by go_num, by rw [HF.out], below_drewN HBL.out _⟩
              case measure => simp [intOf]; omega
        · obtain rfl : j = k := by omega
          rw [firstI_some HM2.out]
          have y0 := HQj.out.2.1.1
          have y1 := HQj.out.2.1.2.1
          have y2 := HQj.out.2.1.2.2
          have o0 := HOj.out.1
          have o1 := HOj.out.2.1
          have o2 := HOj.out.2.2
          have hwr := hbel.size
          have hw6 := HB6.out.size
          have q7 : (w.heap.size + 1 = W5.heap.size) = False := eq_false (by omega)
          have q8 : (W5.heap.size = w.heap.size + 1) = False := eq_false (by omega)
          have HBL := Lib.hid hbel
          clear hbel
          go_wp2_with fail
          refine bodyPost_ret (v := .tuple #[.agg #[.int .i64 now, .slice (some ⟨g5, 0, none⟩) j c5], .int .i64 m, .bool true]) (by simp [results, Try.results33, go_sem, y0, y1, y2, o0, o1, o2, q7, q8]) rfl ⟨_, rfl, _, _, some g5, rfl, ?_, ?_, ?_⟩
          · refine HRR.out.congr fun g e => ?_
            obtain rfl := Option.some.inj e
            rw [heap_setCell_ne _ _ _ _ (by simp only; omega), heap_setCell_ne _ _ _ _ (by simp only; omega), HBL.out.block _ (by omega), HB6.out.block _ (by omega)]
          · intro g e
            obtain rfl := Option.some.inj e
            omega
          · exact (HQj.out.2.2.setCell (by simp only; omega) _).setCell (by simp only; omega) _

set_option maxRecDepth 100000 in
set_option maxHeartbeats 8000000 in
theorem rpick_bad (V : Int) (a : Option Addr) (n c b o : Nat) (T : Nat → TagsE) (ra : Option Addr) (rn rc : Nat) (w : World) (hs : TagsIn w a n c b o T) (hrl : rn ≤ rc) (hrm : rc ≤ maxLen) (hh : vokB V n T = false ∨ (vokB V n T = true ∧ rn ≠ n)) :
    Calls Try.prog 33 #[.agg #[.int .i64 V, .slice a n c], .slice ra rn rc] w (PickOut w 0 0 zeroT 0 false) := by
  have hm := hs.max
  have hl := hs.le
  unfold maxLen at hm hrm
  have HQ := Lib.hid (VB2.mk0 w #[.int .i64 V, .slice a n c] #[.int .i64 0, .slice none 0 0] 39 39)
  have HS := Lib.hid hs
  obtain ⟨C, hC⟩ : ∃ C, C = vokB V n T := ⟨_, rfl⟩
  have C1 : Hid (∀ W, TagsIn W a n c b o T → Calls Try.prog 51 #[.agg #[.int .i64 V, .slice a n c]] W fun e w' => e = .returned (.bool C) ∧ Below W.heap.size W w') := Lib.hid (fun W h => by rw [hC]; exact rcheck_any V a n c b o T W h)
  rw [← hC] at hh
  clear hs hC
  rcases hh with rfl | ⟨rfl, h⟩
  · go_enter Try.func33, Try.ntmps33
    go_wp2_with (go_at_call 51; refine Calls.mono (C1.out _ (HS.out.below HQ.out.2.2)) ?_; rintro e W1 ⟨rfl, hW1⟩; have HQ1 := Lib.hid (HQ.out.step hW1); have r0 := HQ1.out.1.1; have z0 := HQ1.out.1.2.2; have y0 := HQ1.out.2.1.1; have y1 := HQ1.out.2.1.2.1; have y2 := HQ1.out.2.1.2.2)
    refine bodyPost_ret (v := .tuple #[.agg #[.int .i64 0, .slice none 0 0], .int .i64 0, .bool false]) (by simp [results, Try.results33, go_sem, y0, y1, y2]) rfl ⟨_, rfl, none, 0, none, rfl, Row.nil _ _ _, (fun _ h => by cases h), ?_⟩
    exact (HQ1.out.2.2.setCell (by simp only; omega) _).setCell (by simp only; omega) _
  · have hne : ((rn : Int) != (n : Int)) = true := by rw [bne_iff_ne]; omega
    have hne2 : decide ((rn : Nat) = n) = false := by simpa using h
    go_enter Try.func33, Try.ntmps33
    go_wp2_with (go_at_call 51; refine Calls.mono (C1.out _ (HS.out.below HQ.out.2.2)) ?_; rintro e W1 ⟨rfl, hW1⟩; have HQ1 := Lib.hid (HQ.out.step hW1); have r0 := HQ1.out.1.1; have z0 := HQ1.out.1.2.2; have y0 := HQ1.out.2.1.1; have y1 := HQ1.out.2.1.2.1; have y2 := HQ1.out.2.1.2.2)
    refine bodyPost_ret (v := .tuple #[.agg #[.int .i64 0, .slice none 0 0], .int .i64 0, .bool false]) (by simp [results, Try.results33, go_sem, y0, y1, y2]) rfl ⟨_, rfl, none, 0, none, rfl, Row.nil _ _ _, (fun _ h => by cases h), ?_⟩
    exact (HQ1.out.2.2.setCell (by simp only; omega) _).setCell (by simp only; omega) _

theorem rpick_any (V : Int) (a : Option Addr) (n c b o : Nat) (T : Nat → TagsE) (ra : Option Addr) (rn rc rb ro : Nat) (R : Nat → Bool) (w : World) (hs : TagsIn w a n c b o T) (hn : n * 16 ≤ 140737488351232) (hr : BoolsIn w ra rn rc rb ro R) :
    Calls Try.prog 33 #[.agg #[.int .i64 V, .slice a n c], .slice ra rn rc] w (PickP w V n T rn R) := by
  by_cases hc : vokB V n T = true ∧ rn = n
  · obtain ⟨hok, rfl⟩ := hc
    cases hk : firstS R (ltS T) rn with
    | none => exact (rpick_none V a rn c b o T ra rc rb ro R w hs hr hok hk).mono fun e w' h => by unfold PickP; rw [if_pos ⟨hok, rfl⟩, hk]; exact h
    | some k =>
      obtain ⟨m, hm⟩ := second_some (V := V) hk
      exact (rpick_good V a rn c b o T ra rc rb ro R k m _ w hs hn hr hok hk rfl hm).mono fun e w' h => by unfold PickP; rw [if_pos ⟨hok, rfl⟩, hk]; simp only; rw [firstI_some hm]; exact h
  · refine (rpick_bad V a n c b o T ra rn rc w hs hr.le hr.max ?_).mono fun e w' h => by unfold PickP; rw [if_neg hc]; exact h
    cases hv : vokB V n T
    · exact .inl rfl
    · exact .inr ⟨rfl, fun h => hc ⟨hv, h⟩⟩
end Go.Proofs.Ytnainlemnkfpkaa
