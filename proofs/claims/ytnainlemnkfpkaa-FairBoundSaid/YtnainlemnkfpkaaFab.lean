/-
  Queues; a run of a scheduler as plain numbers; may queues be run: the program.
-/
import Derived.Test.YtnainlemnkfpkaaFa9
namespace Go.Proofs.Ytnainlemnkfpkaa
open Go.RowKit
set_option linter.unusedSimpArgs false
set_option linter.unusedVariables false

/-- rows of rows of ints in memory -/
structure QIn (W : World) (a : Option Addr) (len cap b o : Nat) (vs : Nat → Value) (Q : Nat → List Int) : Prop where
  le : len ≤ cap
  max : cap ≤ maxLen
  at_ : 0 < len → a = some ⟨b, o, none⟩ ∧ b < W.heap.size
  cell : ∀ k, k < len → W.cell? ⟨b, o + k, none⟩ = some (vs k)
  inv : ∀ k, k < len → InV W (vs k) (Q k)
theorem QIn.below {W W' : World} {a : Option Addr} {len cap b o : Nat} {vs : Nat → Value} {Q : Nat → List Int} (h : QIn W a len cap b o vs Q) (hB : Below W.heap.size W W') : QIn W' a len cap b o vs Q :=
  ⟨h.le, h.max, fun hk => ⟨(h.at_ hk).1, by have := (h.at_ hk).2; have := hB.size; omega⟩, fun k hk => (hB.cell (p := ⟨b, _, none⟩) (h.at_ (by omega)).2).trans (h.cell k hk), fun k hk => (h.inv k hk).below hB⟩
theorem q_cells (W : World) {a : Option Addr} {len cap : Nat} {xs : List Dt} (h : SliceFits Try.prog W 22 a len cap xs) : ∃ (b o : Nat) (vs : Nat → Value) (Q : Nat → List Int), QIn W a len cap b o vs Q := by
  have hc : Try.prog.cellsOf 22 = 1 := by kernel_rfl
  obtain ⟨b, o, h1, h2⟩ := h.spot (by rw [hc]; omega)
  have hex : ∀ k, ∃ q : Value × List Int, k < len → W.cell? ⟨b, o + k, none⟩ = some q.1 ∧ InV W q.1 q.2 := fun k => by
    by_cases hk : k < len
    · have hl := h.length
      have hx := List.getElem?_eq_getElem (l := xs) (i := k) (by omega)
      obtain ⟨a1, n1, c1, ys, e0, f0⟩ := (h.each k _ hx).1.slice_inv Try.underlying22
      obtain ⟨L, _, hL⟩ := inv_cells W f0
      have hcell := h2 k _ hx
      rw [e0, hc] at hcell
      exact ⟨(.slice a1 n1 c1, L), fun _ => ⟨by have := hcell 0 _ rfl; rwa [Nat.mul_one] at this, hL⟩⟩
    · exact ⟨(.slice none 0 0, []), fun h => absurd h hk⟩
  have hg := fun k => Classical.choose_spec (hex k)
  exact ⟨b, o, fun k => (Classical.choose (hex k)).1, fun k => (Classical.choose (hex k)).2, h.le, h.max, h1, fun k hk => (hg k hk).1, fun k hk => (hg k hk).2⟩
/-- heads of queues of which so many went -/
def hdQ (Q : Nat → List Int) (at_ : Nat → Nat) (k : Nat) : Int := gI (Q k) (at_ k)
theorem gI_out {L : List Int} {k : Nat} (h : L.length ≤ k) : gI L k = 0 := by unfold gI; rw [List.getElem?_eq_none h]; rfl
def runF (n : Nat) (wt : Nat → Int) (al : Int) (Q : Nat → List Int) : Nat → FS → (Nat → Nat) → List Nat
  | 0, _, _ => []
  | f + 1, s, at_ => match pkK n wt al (hdQ Q at_) s with
    | none => []
    | some k => k :: runF n wt al Q f (pkS n wt al (hdQ Q at_) s) (upf at_ k (at_ k + 1))
def totQ (Q : Nat → List Int) : Nat → Nat
  | 0 => 0
  | k + 1 => totQ Q k + (Q k).length
def leftQ (Q : Nat → List Int) (at_ : Nat → Nat) : Nat → Nat
  | 0 => 0
  | k + 1 => leftQ Q at_ k + ((Q k).length - at_ k)
theorem leftQ_zero (Q : Nat → List Int) : ∀ n, leftQ Q (fun _ => 0) n = totQ Q n
  | 0 => rfl
  | n + 1 => by simp only [leftQ, totQ, leftQ_zero Q n]; omega
theorem leftQ_none {Q : Nat → List Int} {at_ : Nat → Nat} : ∀ {n : Nat}, (∀ k, k < n → (Q k).length ≤ at_ k) → leftQ Q at_ n = 0
  | 0, _ => rfl
  | n + 1, h => by simp only [leftQ, leftQ_none (n := n) (fun k hk => h k (by omega))]; have := h n (by omega); omega
theorem leftQ_ge {Q : Nat → List Int} {at_ : Nat → Nat} {k m : Nat} (hk : m ≤ k) : leftQ Q (upf at_ k (at_ k + 1)) m = leftQ Q at_ m := by
  induction m with
  | zero => rfl
  | succ m ih => simp only [leftQ]; rw [ih (by omega), upf_ne _ _ (by omega)]
theorem leftQ_up {Q : Nat → List Int} {at_ : Nat → Nat} {k : Nat} (h : at_ k < (Q k).length) : ∀ {n : Nat}, k < n → leftQ Q (upf at_ k (at_ k + 1)) n + 1 = leftQ Q at_ n
  | 0, hk => by omega
  | n + 1, hk => by
    simp only [leftQ]
    by_cases hkn : k = n
    · subst hkn
      rw [leftQ_ge (Nat.le_refl _), upf_at]
      omega
    · rw [upf_ne _ _ (fun e => hkn e.symm)]
      have := leftQ_up (n := n) h (by omega)
      omega
def okQ (Q : Nat → List Int) (n : Nat) : Prop := totQ Q n ≤ 1000 ∧ ∀ k, k < n → ∀ x ∈ Q k, 1 ≤ x ∧ x ≤ 1500
theorem okQ.hd {Q : Nat → List Int} {n : Nat} (h : okQ Q n) (at_ : Nat → Nat) : okHd (hdQ Q at_) n := by
  intro k hk
  unfold hdQ
  by_cases hl : at_ k < (Q k).length
  · have := h.2 k hk _ (List.mem_of_getElem? (gI_lt hl)); omega
  · rw [gI_out (by omega)]; omega
theorem okQ.pos {Q : Nat → List Int} {n : Nat} (h : okQ Q n) (at_ : Nat → Nat) {k : Nat} (hk : k < n) : 0 < hdQ Q at_ k ↔ at_ k < (Q k).length := by
  unfold hdQ
  by_cases hl : at_ k < (Q k).length
  · have := h.2 k hk _ (List.mem_of_getElem? (gI_lt hl))
    exact ⟨fun _ => hl, fun _ => by omega⟩
  · rw [gI_out (by omega)]; exact ⟨fun h => by omega, fun h => absurd h hl⟩
theorem totQ_mono (Q : Nat → List Int) : ∀ {k n : Nat}, k ≤ n → totQ Q k ≤ totQ Q n
  | k, 0, h => by have : k = 0 := by omega
                  subst this; exact Nat.le_refl _
  | k, n + 1, h => by
    by_cases hk : k = n + 1
    · subst hk; exact Nat.le_refl _
    · have := totQ_mono Q (k := k) (n := n) (by omega); simp only [totQ]; omega
set_option maxRecDepth 100000 in
set_option maxHeartbeats 4000000 in
theorem mayRun_any (a : Option Addr) (n cap b o : Nat) (vs : Nat → Value) (Q : Nat → List Int) (w : World) (h : QIn w a n cap b o vs Q) (h8 : n ≤ 1000000) (hq : ∀ k, k < n → (Q k).length ≤ 1000000) :
    Calls Try.prog 37 #[.slice a n cap] w fun e w' => ∃ B : Bool, e = .returned (.bool B) ∧ w = w' ∧ (B = true ↔ okQ Q n) := by
  have m1 := h.le
  have m2 := h.max
  unfold maxLen at m2
  have HQ := Lib.hid h
  have H8 := Lib.hid h8
  have HQL := Lib.hid hq
  clear h h8 hq
  go_enter Try.func37, Try.ntmps37
  go_wp2_with fail
  go_loopw [3, 5, 7, 10] (fun vn _ _ i wr => ∃ k : Nat, k ≤ n ∧ i = .int .i64 k ∧ vn = .int .i64 (totQ Q k : Nat) ∧ totQ Q k ≤ 1000 ∧ (∀ j, j < k → ∀ x ∈ Q j, 1 ≤ x ∧ x ≤ 1500) ∧ wr = w) (fun _ _ _ i _ => n - (intOf i).toNat)
  case atStart => exact ⟨0, Nat.zero_le _, rfl, rfl, by simp [totQ], (fun j h => by omega), rfl⟩
  case round =>
    obtain ⟨k, hk, rfl, rfl, ht, ho, rfl⟩ := hrel
    have HO := Lib.hid ho
    have HT := Lib.hid ht
    by_cases hlt : k < n
    rotate_left
    · obtain rfl : k = n := by omega
      clear ho ht
      go_wp2_with fail
      try rw [Exit.noGoto_ret]
      go_ret
      exact ⟨_, rfl, rfl, ⟨fun _ => ⟨HT.out, HO.out⟩, fun _ => rfl⟩⟩
    obtain ⟨ea, hbl⟩ := HQ.out.at_ (by omega)
    subst ea
    have c0 := HQ.out.cell k hlt
    have hv := HQ.out.inv k hlt
    obtain ⟨xa, xn, xc, ev, HXN, x1, x2⟩ := hv.sh
    rw [ev] at c0 hv
    have HV := Lib.hid hv
    have hxl : xn = (Q k).length := HXN.out
    have hxb : xn ≤ 1000000 := by rw [hxl]; exact HQL.out k hlt
    obtain ⟨S, hS⟩ : ∃ S, S = totQ Q k := ⟨_, rfl⟩
    obtain ⟨S2, hS2⟩ : ∃ S2, S2 = S + xn := ⟨_, rfl⟩
    have HS2 : Hid (totQ Q (k + 1) = S2) := Lib.hid (by rw [hS2, hS, hxl]; rfl)
    rw [← hS] at ht ⊢
    have ws : IntKind.i64.wrap ((S : Int) + (xn : Int)) = (S2 : Int) := (IntWalk.i64_in _ (by omega)).trans (by omega)
    have HSS := Lib.hid hS
    have ww5 : IntKind.i64.wrap ((k : Int) + 1) = (k : Int) + 1 := IntWalk.i64_in _ (by omega)
    have b9 : ((k : Int) < (n : Int)) = True := eq_true (by omega)
    have bk1 : (k < n) = True := eq_true hlt
    have HLT := Lib.hid hlt
    clear ho hbl hv ev hxl hS hlt
    by_cases hbig : 1000 < S2
    · have d1 : decide ((1000 : Int) < (S2 : Int)) = true := decide_eq_true (by omega)
      have HBG := Lib.hid hbig
      clear hbig hS2 ht
      go_wp2_with fail
      try rw [Exit.noGoto_ret]
      go_ret
      exact ⟨_, rfl, rfl, ⟨(fun h => by cases h), fun h => by
        have h1 := h.1
        have h2 := totQ_mono Q (k := k + 1) (n := n) (by have := HLT.out; omega)
        have := HS2.out
        have := HBG.out
        omega⟩⟩
    have d1 : decide ((1000 : Int) < (S2 : Int)) = false := decide_eq_false (by omega)
    have HBG := Lib.hid hbig
    clear hbig hS2 ht
    go_wp2_with fail
    go_loopw [7, 22] (fun _ j wq => ∃ q : Nat, q ≤ xn ∧ j = .int .i64 q ∧ (∀ i, i < q → ∀ x, (Q k)[i]? = some x → 1 ≤ x ∧ x ≤ 1500) ∧ wq = wr) (fun _ j _ => xn - (intOf j).toNat)
    case atStart => exact ⟨0, Nat.zero_le _, rfl, (fun i h => by omega), rfl⟩
    case round =>
      obtain ⟨q, hq, rfl, hqo, rfl⟩ := hrel
      have HQO := Lib.hid hqo
      by_cases hlq : q < xn
      rotate_left
      · obtain rfl : q = xn := by omega
        clear hqo
        go_wp2_with fail
        go_roundw
        case rel => exact ⟨k + 1, by have := HLT.out; omega, by go_num, (by rw [HS2.out]), (by have h1 := HBG.out; rw [HS2.out]; omega), (fun j hj x hx => by
          by_cases hjk : j = k
          · subst hjk
            obtain ⟨i, hi⟩ := List.getElem?_of_mem hx
            have hil := (List.getElem?_eq_some_iff.1 hi).1
            exact HQO.out i (by rw [HXN.out]; exact hil) x hi
          · exact HO.out j (by omega) x hx), by first | rfl | trivial⟩
        case measure => (have h8 := HLT.out; first | (simp [intOf]; done) | (simp [intOf]; omega))
      obtain ⟨gx, ox, y, ea, l1, hy, c1⟩ := HV.out.at q hlq
      subst ea
      replace c1 := c1.1
      have HY := Lib.hid hy
      have ww6 : IntKind.i64.wrap ((q : Int) + 1) = (q : Int) + 1 := IntWalk.i64_in _ (by omega)
      have bq9 : ((q : Int) < (xn : Int)) = True := eq_true (by omega)
      have bq1 : (q < xn) = True := eq_true hlq
      have HLQ := Lib.hid hlq
      clear hqo hy hlq
      by_cases hbad : y < 1 ∨ 1500 < y
      · have HNO : Hid (¬ okQ Q n) := Lib.hid (fun h => by have := h.2 k HLT.out y (List.mem_of_getElem? HY.out); omega)
        rcases hbad with hb | hb
        · have d2 : decide (y < 1) = true := decide_eq_true hb
          clear hb
          go_wp2_with fail
          try rw [Exit.noGoto_ret]
          go_ret
          exact ⟨_, rfl, rfl, ⟨(fun h => by cases h), fun h => absurd h HNO.out⟩⟩
        · have d2 : decide (y < 1) = false := decide_eq_false (by omega)
          have d3 : decide (1500 < y) = true := decide_eq_true hb
          clear hb
          go_wp2_with fail
          try rw [Exit.noGoto_ret]
          go_ret
          exact ⟨_, rfl, rfl, ⟨(fun h => by cases h), fun h => absurd h HNO.out⟩⟩
      have HYB : Hid (1 ≤ y ∧ y ≤ 1500) := Lib.hid (by omega)
      have d2 : decide (y < 1) = false := decide_eq_false (by omega)
      have d3 : decide (1500 < y) = false := decide_eq_false (by omega)
      clear hbad
      go_wp2_with fail
      go_roundw
      case rel => exact ⟨q + 1, by have := HLQ.out; omega, by go_num, (fun i hi x hx => by
        by_cases hiq : i = q
        · subst hiq
          obtain rfl := Option.some.inj (HY.out.symm.trans hx)
          exact HYB.out
        · exact HQO.out i (by omega) x hx), by first | rfl | trivial⟩
      case measure => (have h8 := HLQ.out; first | (simp [intOf]; done) | (simp [intOf]; omega))
end Go.Proofs.Ytnainlemnkfpkaa
