/-
  The document's Commit answers what the program's answers.
-/
import Derived.Test.YtninhjeiialbjaaFy2
namespace Go.Proofs.Ytninhjeiialbjaa
open Go.RowKit
set_option linter.unusedSimpArgs false
set_option linter.unusedVariables false

theorem chk_mono (E : Nat → Ent) : ∀ (n k : Nat) (t : Int), chk E n k t = true → ∀ j, k ≤ j → j < k + n → t ≤ (E j).t ∧ ∀ i, k ≤ i → i ≤ j → (E i).t ≤ (E j).t
  | 0, k, t, _, j, h1, h2 => by omega
  | n + 1, k, t, h, j, h1, h2 => by
    unfold chk at h
    simp only [Bool.and_eq_true, decide_eq_true_eq] at h
    obtain ⟨⟨g1, _⟩, g2⟩ := h
    by_cases hj : j = k
    · subst hj
      exact ⟨g1, fun i hi hi2 => by have e : i = j := (by omega); rw [e]; exact Int.le_refl _⟩
    · obtain ⟨a1, a2⟩ := chk_mono E n (k + 1) (E k).t g2 j (by omega) (by omega)
      refine ⟨by omega, fun i hi hi2 => ?_⟩
      by_cases hik : i = k
      · subst hik; exact a1
      · exact a2 i (by omega) hi2
theorem rows_mono {base term : Int} {len : Nat} {E : Nat → Ent} (h : rowsB base term len E = true) (i j : Nat) (hij : i ≤ j) (hj : j < len) : (E i).t ≤ (E j).t := by
  unfold rowsB at h
  rw [Bool.and_eq_true] at h
  exact (chk_mono E len 0 _ h.2 j (by omega) (by omega)).2 i (by omega) hij

theorem madeI_zero (base : Int) (E : Nat → Ent) (t : Int) : ∀ d, (∀ j, j < d → (E j).t < t) → madeI base E t d = 0
  | 0, _ => rfl
  | d + 1, h => by
    have := h d (by omega)
    unfold madeI
    rw [if_pos (by omega), if_neg (by omega)]

/-- is more than half at an index? -/
def majB (P : Nat → PgE) (pn : Nat) (self : Int) (L : List Nat) (i : Int) : Bool := decide (L.length < 2 * L.countP (hasI2 P pn self i))
/-- what is committed, the first d entries looked at -/
def outD (base commit t : Int) (E : Nat → Ent) (mj : Int → Bool) : Nat → Int
  | 0 => commit
  | d + 1 => if commit < base + ((d + 1 : Nat) : Int) ∧ (E d).t = t ∧ mj (base + ((d + 1 : Nat) : Int)) = true then base + ((d + 1 : Nat) : Int) else outD base commit t E mj d
theorem outD_low (base commit t : Int) (E : Nat → Ent) (mj : Int → Bool) : ∀ d : Nat, base + (d : Int) ≤ commit → outD base commit t E mj d = commit
  | 0, _ => rfl
  | d + 1, h => by
    unfold outD
    rw [if_neg (fun g => by omega)]
    exact outD_low base commit t E mj d (by omega)

/-- more than half are at an index just where it is at most what is reached -/
theorem maj_iff (P : Nat → PgE) (pn : Nat) (self la i : Int) (L : List Nat) (hL : 0 < L.length) (hi : i ≤ la) : majB P pn self L i = true ↔ i ≤ reachI (matL P pn self la L) := by
  unfold majB
  rw [decide_eq_true_eq, ← has_count P pn self i la L hi]
  have hl : (matL P pn self la L).length = L.length := by unfold matL; rw [List.length_map]
  rw [← hl]
  constructor
  · intro h
    apply Classical.byContradiction
    intro hn
    -- nothing from the middle on is so great
    obtain ⟨M, hM⟩ : ∃ M, M = matL P pn self la L := ⟨_, rfl⟩
    rw [← hM] at h hn hl
    rw [← fall_count M] at h
    have hfl := fallI_len M
    have hm : M.length / 2 < (fallI M).length := by omega
    have h1 : (fallI M)[M.length / 2]'hm = reachI M := by
      unfold reachI
      rw [List.getElem?_eq_getElem hm]
      rfl
    have h2 : (fallI M).countP (fun x => decide (i ≤ x)) = ((fallI M).take (M.length / 2)).countP (fun x => decide (i ≤ x)) + ((fallI M).drop (M.length / 2)).countP (fun x => decide (i ≤ x)) := by
      rw [← List.countP_append, List.take_append_drop]
    have h3 : ((fallI M).drop (M.length / 2)).countP (fun x => decide (i ≤ x)) = 0 := by
      rw [List.countP_eq_zero]
      intro x hx
      obtain ⟨j, hj, rfl⟩ := List.mem_iff_getElem.1 hx
      rw [List.getElem_drop]
      rw [List.length_drop] at hj
      have h4 : (fallI M)[M.length / 2 + j]'(by omega) ≤ reachI M := by
        rw [← h1]
        by_cases he : j = 0
        · subst he; exact Int.le_refl _
        · exact List.pairwise_iff_getElem.1 (fall_pair M) (M.length / 2) (M.length / 2 + j) hm (by omega) (by omega)
      simp
      omega
    have h5 := List.countP_le_length (p := fun x => decide (i ≤ x)) (l := (fallI M).take (M.length / 2))
    rw [List.length_take] at h5
    omega
  · exact fun h => reach_count _ i (by omega) h

theorem outD_made (base commit t rc : Int) (E : Nat → Ent) (mj : Int → Bool) (len : Nat) (hb : 0 ≤ base) (hc : 0 ≤ commit) (hmono : ∀ i j, i ≤ j → j < len → (E i).t ≤ (E j).t) (hmj : ∀ d : Nat, d < len → (mj (base + ((d + 1 : Nat) : Int)) = true ↔ base + ((d + 1 : Nat) : Int) ≤ rc)) :
    outD base commit t E mj len = max commit (madeI base E t (min (base + len) rc - base).toNat) := by
  have h1 : ∀ d, d ≤ len → (d = 0 ∨ base + (d : Int) ≤ rc) → outD base commit t E mj d = max commit (madeI base E t d) := by
    intro d
    induction d with
    | zero => intro _ _; unfold outD madeI; omega
    | succ d ih =>
      intro hd hr
      have hr2 : base + ((d + 1 : Nat) : Int) ≤ rc := by omega
      have ih2 := ih (by omega) (by omega)
      have hm := (hmj d (by omega)).2 hr2
      unfold outD madeI
      rcases Int.lt_trichotomy (E d).t t with he | he | he
      · rw [if_neg (fun g => by omega), if_pos (by omega), if_neg (by omega), ih2]
        rw [madeI_zero base E t d (fun j hj => by have := hmono j d (by omega) (by omega); omega)]
      · rw [if_pos (show (E d).t ≤ t by omega), if_pos he]
        by_cases hg : commit < base + ((d + 1 : Nat) : Int)
        · rw [if_pos ⟨hg, he, hm⟩]; omega
        · rw [if_neg (fun g => hg g.1), ih2]
          rcases madeI_cases base E t d with h | ⟨j, j1, j2, _⟩
          · omega
          · omega
      · rw [if_neg (fun g => by omega), if_neg (by omega), ih2]
  obtain ⟨D, hD⟩ : ∃ D, D = (min (base + len) rc - base).toNat := ⟨_, rfl⟩
  rw [← hD]
  have hDl : D ≤ len := by omega
  have h2 : ∀ d, D ≤ d → d ≤ len → outD base commit t E mj d = outD base commit t E mj D := by
    intro d
    induction d with
    | zero => intro h _; rw [show D = 0 by omega]
    | succ d ih =>
      intro h hl
      by_cases he : D = d + 1
      · rw [he]
      · have ih2 := ih (by omega) (by omega)
        have hm : ¬ (mj (base + ((d + 1 : Nat) : Int)) = true) := fun g => by
          have := (hmj d (by omega)).1 g
          omega
        conv => lhs; unfold outD
        rw [if_neg (fun g => hm g.2.2)]
        exact ih2
  rw [h2 len hDl (Nat.le_refl _)]
  exact h1 D hDl (by omega)

set_option maxRecDepth 100000 in
set_option maxHeartbeats 8000000 in
theorem rcommit_bad (base term : Int) (a : Option Addr) (len cap b o : Nat) (E : Nat → Ent) (set self t commit : Int) (pa : Option Addr) (pn pc : Nat) (w : World) (hs : EntsIn w a len cap b o E) (hk : rowsB base term len E = false) :
    Calls Try.prog 27 #[.agg #[.int .i64 base, .int .i64 term, .slice a len cap], .int .u8 set, .int .i64 self, .int .i64 t, .int .i64 commit, .slice pa pn pc] w fun e w' => e = .returned (.tuple #[.int .i64 0, .int .i64 90]) ∧ Below w.heap.size w w' := by
  have CUR := Lib.hid (RBox.mk0 w base term (.slice a len cap))
  have CC := Lib.hid (fun W (h : Below w.heap.size w W) => rcheck_any base term a len cap b o E W (hs.below h))
  rw [rE_bad hk] at CC
  clear hs hk
  go_enter Try.func27, Try.ntmps27
  go_wp2_with fail
  go_at_call 31
  refine (CC.out _ CUR.out.2.2).mono ?_
  rintro e W3 ⟨rfl, hW3⟩
  have C4 := Lib.hid (CUR.out.step hW3)
  clear hW3
  go_wp2_with fail
  go_ret2
  exact ⟨rfl, C4.out.2.2⟩

set_option maxRecDepth 100000 in
set_option maxHeartbeats 20000000 in
theorem rcommit_ok (base term : Int) (a : Option Addr) (len cap b o : Nat) (E : Nat → Ent) (set self t commit : Int) (pa : Option Addr) (pn pc pb po : Nat) (P : Nat → PgE) (w : World) (hs : EntsIn w a len cap b o E) (hp : PgIn w pa pn pc pb po P) (h0 : 0 ≤ set) (h1 : set ≤ 255) (hk : rowsB base term len E = true) :
    Calls Try.prog 27 #[.agg #[.int .i64 base, .int .i64 term, .slice a len cap], .int .u8 set, .int .i64 self, .int .i64 t, .int .i64 commit, .slice pa pn pc] w fun e w' => (e = .returned (if commit < 0 ∨ base + len < commit ∨ t < 1 ∨ (memF set 7).length = 0 then .tuple #[.int .i64 0, .int .i64 2] else .tuple #[.int .i64 (outD base commit t E (majB P pn self (memF set 7)) len), .int .i64 0])) ∧ Below w.heap.size w w' := by
  have CUR := Lib.hid (RBox.mk0 w base term (.slice a len cap))
  obtain ⟨b0, b1, h4, t0⟩ := rB_head hk
  have CC := Lib.hid (fun W (h : Below w.heap.size w W) => rcheck_any base term a len cap b o E W (hs.below h))
  rw [rE_ok hk] at CC
  have CL := Lib.hid (fun W (h : Below w.heap.size w W) => rlast_ok base term a len cap b o E W (hs.below h) hk)
  have CT := Lib.hid (fun j W (h : Below w.heap.size w W) (hj : j < len) => rterm_ok base term j a len cap b o E W (hs.below h) hk hj)
  have CF := Lib.hid (fun k W (h : Below w.heap.size w W) => rfind_any k pa pn pc pb po P W (hp.below h))
  have CB := Lib.hid (fun k (h : k < 7) W => bit_any set h0 h1 k h W)
  obtain ⟨lt, hlt⟩ : ∃ lt, lt = lastT term len E := ⟨_, rfl⟩
  rw [← hlt] at CL
  obtain ⟨la, hla⟩ : ∃ la, la = base + (len : Int) := ⟨_, rfl⟩
  rw [← hla] at CL ⊢
  have hla1 : 0 ≤ la := by omega
  have hla2 : la ≤ 1099511627776 := by omega
  have HLA := Lib.hid hla
  obtain ⟨z, hz⟩ : ∃ z, z = (memF set 7).length := ⟨_, rfl⟩
  rw [← hz]
  have HZ := Lib.hid hz
  have hz7 : z ≤ 7 := by rw [hz]; exact memF_len set 7
  obtain ⟨rv, hrv⟩ : ∃ rv : Value, rv = if commit < 0 ∨ la < commit ∨ t < 1 ∨ z = 0 then .tuple #[.int .i64 0, .int .i64 2] else .tuple #[.int .i64 (outD base commit t E (majB P pn self (memF set 7)) len), .int .i64 0] := ⟨_, rfl⟩
  rw [← hrv]
  have HRV := Lib.hid hrv
  clear hs hp hk hlt hla hz hrv
  go_enter Try.func27, Try.ntmps27
  go_wp2_with fail
  go_at_call 31
  refine (CC.out _ CUR.out.2.2).mono ?_
  rintro e W3 ⟨rfl, hW3⟩
  have C3 := Lib.hid (CUR.out.step hW3)
  clear hW3 CC CUR
  obtain ⟨⟨f0, f1, f2⟩, f3, _⟩ := id C3.out
  go_wp2_with fail
  go_at_call 32
  refine (CL.out _ C3.out.2.2).mono ?_
  rintro e W4 ⟨rfl, hW4⟩
  have C4 := Lib.hid (C3.out.step hW4)
  clear hW4 f0 f1 f2 f3 CL C3
  go_wp2_with fail
  go_loop [16, 17] (fun vs vi => ∃ k : Nat, k ≤ 7 ∧ vi = .int .i64 ((k + 1 : Nat) : Int) ∧ vs = .int .i64 (((memF set k).length : Nat) : Int)) (fun _ vi => 8 - (intOf vi).toNat)
  case atStart => exact ⟨0, by omega, rfl, rfl⟩
  case round =>
    obtain ⟨k, hk7, rfl, rfl⟩ := hrel
    obtain ⟨n, hn⟩ : ∃ n, n = k + 1 := ⟨_, rfl⟩
    rw [← hn]
    by_cases hlt : k < 7
    · have hlen : (memF set (k + 1)).length = (memF set k).length + if bitB set k = true then 1 else 0 := by
        rw [show memF set (k + 1) = memF set k ++ if bitB set k = true then [k + 1] else [] from rfl, List.length_append]
        cases hb : bitB set k <;> simp
      have hl7 := memF_len set k
      obtain ⟨y, hyy⟩ : ∃ y, y = (memF set k).length := ⟨_, rfl⟩
      rw [← hyy] at hlen hl7 ⊢
      have HLN := Lib.hid hlen
      have HCB := Lib.hid (CB.out k hlt)
      rw [← hn] at HCB
      have hn7 : n ≤ 7 := by omega
      have HNK := Lib.hid hn
      obtain ⟨q, hq⟩ : ∃ q, q = bitB set k := ⟨_, rfl⟩
      rw [← hq] at HCB HLN
      clear hlen hyy hn hq
      cases q
      all_goals
        go_wp2_with fail
        go_at_call 63
        refine (HCB.out _).mono ?_
        rintro e W9 ⟨rfl, rfl⟩
        go_wp2_with fail
        go_round
        case rel => exact ⟨k + 1, by omega, by rw [HNK.out]; go_num, by rw [HLN.out]; first | rfl | go_num⟩
        case measure => have := HNK.out; first | (simp [intOf]; done) | (simp [intOf]; omega)
    · obtain rfl : k = 7 := by omega
      obtain rfl : n = 8 := hn
      rw [← HZ.out]
      by_cases hc : commit < 0 ∨ la < commit ∨ t < 1 ∨ z = 0
      · have hrv := HRV.out
        rw [if_pos hc] at hrv
        subst hrv
        have hc2 : commit < 0 ∨ (0 ≤ commit ∧ la < commit) ∨ (0 ≤ commit ∧ commit ≤ la ∧ t < 1) ∨ (0 ≤ commit ∧ commit ≤ la ∧ 1 ≤ t ∧ z = 0) := by omega
        clear hc
        rcases hc2 with g1 | ⟨g1, g2⟩ | ⟨g1, g2, g3⟩ | ⟨g1, g2, g3, g4⟩
        all_goals
          go_wp2_with fail
          go_ret2
          exact ⟨rfl, C4.out.2.2⟩
      · have hrv := HRV.out
        rw [if_neg hc] at hrv
        have g1 : 0 ≤ commit := by omega
        have g2 : commit ≤ la := by omega
        have g3 : 1 ≤ t := by omega
        have g4 : ((z : Int) == 0) = false := by rw [beq_eq_false_iff_ne]; omega
        have g5 : (z = 0) = False := eq_false (by omega)
        obtain ⟨⟨f0, f1, f2⟩, f3, _⟩ := id C4.out
        obtain ⟨mj, hmj⟩ : ∃ mj, mj = majB P pn self (memF set 7) := ⟨_, rfl⟩
        rw [← hmj] at hrv
        obtain ⟨OD, hOD⟩ : ∃ OD, OD = outD base commit t E mj := ⟨_, rfl⟩
        rw [← hOD] at hrv
        subst hrv
        have HMJ := Lib.hid hmj
        have HOD := Lib.hid hOD
        obtain ⟨d0, hd0⟩ : ∃ d0 : Nat, max commit base = base + (d0 : Int) := ⟨(max commit base - base).toNat, by omega⟩
        have hst : OD d0 = commit := by
          rw [hOD]
          by_cases h : commit ≤ base
          · have : d0 = 0 := by omega
            rw [this]; rfl
          · exact outD_low base commit t E mj d0 (by omega)
        have HST := Lib.hid hst
        have hd0l : d0 ≤ len := by have := HLA.out; omega
        have hxb : base + (d0 : Int) ≤ 1099511627776 := by omega
        clear hc hmj hOD hst HRV
        go_wp2_with fail
        go_loopw [18, 19] (fun vo vi wr => ∃ d : Nat, d0 ≤ d ∧ d ≤ len ∧ vi = .int .i64 (base + ((d + 1 : Nat) : Int)) ∧ vo = .int .i64 (OD d) ∧ RBox w base term (.slice a len cap) wr) (fun _ vi _ => (la + 2 - intOf vi).toNat)
        case atStart => exact ⟨d0, Nat.le_refl _, hd0l, by go_num, by rw [HST.out], C4.out⟩
        case round =>
          obtain ⟨d, hd1, hd2, rfl, rfl, hB⟩ := hrel
          have HB := Lib.hid hB
          clear hB
          obtain ⟨x, hx⟩ : ∃ x, x = base + ((d + 1 : Nat) : Int) := ⟨_, rfl⟩
          rw [← hx]
          have hcx : commit < x := by omega
          have hxb2 : x ≤ 1099511627777 := by have := HLA.out; omega
          have hx0 : 0 ≤ x := by omega
          obtain ⟨⟨f0, f1, f2⟩, f3, _⟩ := id HB.out
          by_cases hlt : d < len
          · have hxl : x ≤ la := by have := HLA.out; omega
            have hod : OD (d + 1) = if (E d).t = t ∧ mj x = true then x else OD d := by
              rw [HOD.out]
              conv => lhs; unfold outD
              rw [← hx]
              by_cases h : (E d).t = t ∧ mj x = true
              · rw [if_pos ⟨hcx, h⟩, if_pos h]
              · rw [if_neg (fun g => h g.2), if_neg h]
            have HOO := Lib.hid hod
            have HCT := Lib.hid (CT.out d)
            rw [← hx] at HCT
            obtain ⟨et, het⟩ : ∃ et, et = (E d).t := ⟨_, rfl⟩
            rw [← het] at HCT HOO
            obtain ⟨f, hf⟩ : ∃ f, f = hasI2 P pn self x := ⟨_, rfl⟩
            have HF := Lib.hid hf
            have HX := Lib.hid hx
            clear hod hf hx het
            go_wp2_with fail
            go_at_call 33
            refine (HCT.out _ HB.out.2.2 hlt).mono ?_
            rintro e W5 ⟨rfl, hW5⟩
            have HB5 := Lib.hid (HB.out.step hW5)
            clear hW5 f0 f1 f2 f3
            go_wp2_with fail
            go_loopw [22, 23] (fun vn vk wi => ∃ k : Nat, k ≤ 7 ∧ vk = .int .i64 ((k + 1 : Nat) : Int) ∧ vn = .int .i64 (((memF set k).countP f : Nat) : Int) ∧ RBox w base term (.slice a len cap) wi) (fun _ vk _ => 8 - (intOf vk).toNat)
            case atStart => exact ⟨0, by omega, rfl, rfl, HB5.out⟩
            case round =>
              obtain ⟨k, hk7, rfl, rfl, hB6⟩ := hrel
              have HB6 := Lib.hid hB6
              clear hB6
              obtain ⟨n, hn⟩ : ∃ n, n = k + 1 := ⟨_, rfl⟩
              rw [← hn]
              by_cases hlk : k < 7
              · have hstep : memF set (k + 1) = memF set k ++ if bitB set k = true then [k + 1] else [] := rfl
                have hfk : f n = (((n : Nat) : Int) == self || decide (x ≤ (foundE P ((n : Nat) : Int) pn).match_)) := by rw [HF.out]; rfl
                have HF1 := Lib.hid (CF.out ((n : Nat) : Int))
                obtain ⟨fe, hfe⟩ : ∃ fe, fe = foundE P ((n : Nat) : Int) pn := ⟨_, rfl⟩
                obtain ⟨fb, hfb⟩ : ∃ fb, fb = foundB P ((n : Nat) : Int) pn := ⟨_, rfl⟩
                rw [← hfe] at hfk HF1
                rw [← hfb] at HF1
                obtain ⟨fn, fm, fx⟩ := fe
                simp only at hfk HF1
                have hy := List.countP_le_length (p := f) (l := memF set k)
                have hl7 := memF_len set k
                obtain ⟨y, hyy⟩ : ∃ y, y = (memF set k).countP f := ⟨_, rfl⟩
                have hcnt : (memF set (k + 1)).countP f = y + if bitB set k = true ∧ f n = true then 1 else 0 := by
                  rw [hstep, List.countP_append, hyy, hn]
                  cases hb : bitB set k
                  · simp
                  · cases hf2 : f (k + 1) <;> simp [hf2]
                rw [← hyy] at hy ⊢
                have hy7 : y ≤ 7 := by omega
                have HCB := Lib.hid (CB.out k hlk)
                rw [← hn] at HCB
                have hn7 : n ≤ 7 := by omega
                have HNK := Lib.hid hn
                obtain ⟨q, hq⟩ : ∃ q, q = bitB set k := ⟨_, rfl⟩
                rw [← hq] at HCB hcnt
                have HCN := Lib.hid hcnt
                have hcs : (q = false ∧ (memF set (k + 1)).countP f = y) ∨ (q = true ∧ (((n : Nat) : Int) == self) = true ∧ (memF set (k + 1)).countP f = y + 1) ∨ (q = true ∧ (((n : Nat) : Int) == self) = false ∧ decide (x ≤ fm) = true ∧ (memF set (k + 1)).countP f = y + 1) ∨ (q = true ∧ (((n : Nat) : Int) == self) = false ∧ decide (x ≤ fm) = false ∧ (memF set (k + 1)).countP f = y) := by
                  rw [hcnt]
                  cases q
                  · exact .inl ⟨rfl, by simp⟩
                  · rw [hfk]
                    cases h5 : (((n : Nat) : Int) == self)
                    · cases h6 : decide (x ≤ fm)
                      · exact .inr (.inr (.inr ⟨rfl, rfl, rfl, by simp⟩))
                      · exact .inr (.inr (.inl ⟨rfl, rfl, rfl, by simp⟩))
                    · exact .inr (.inl ⟨rfl, rfl, by simp⟩)
                clear hstep hfk hfe hfb hyy hcnt hn hq hy hl7
                rcases hcs with ⟨rfl, hE⟩ | ⟨rfl, d5, hE⟩ | ⟨rfl, d5, d6, hE⟩ | ⟨rfl, d5, d6, hE⟩
                all_goals
                  have HE := Lib.hid hE
                  clear hE
                  go_wp2_with fail
                  go_at_call 18
                  refine (HF1.out _ HB6.out.2.2).mono ?_
                  rintro e W7 ⟨rfl, hW7⟩
                  have HB7 := Lib.hid (HB6.out.step hW7)
                  clear hW7
                  go_wp2_with fail
                  go_at_call 63
                  refine (HCB.out _).mono ?_
                  rintro e W9 ⟨rfl, rfl⟩
                  go_wp2_with fail
                  go_roundw
                  case rel => exact ⟨k + 1, by omega, by rw [HNK.out]; go_num, by first | (rw [HE.out]; done) | (rw [HE.out]; rfl) | (rw [HE.out]; go_num), HB7.out.step ((Below.refl _ _).alloc (Nat.le_refl _) _)⟩
                  case measure => have := HNK.out; first | (simp [intOf]; done) | (simp [intOf]; omega)
              · obtain rfl : k = 7 := by omega
                obtain rfl : n = 8 := hn
                have hy := List.countP_le_length (p := f) (l := memF set 7)
                have hmx : mj x = decide (z < 2 * (memF set 7).countP f) := by rw [HMJ.out, HF.out, HZ.out]; rfl
                obtain ⟨y, hyy⟩ : ∃ y, y = (memF set 7).countP f := ⟨_, rfl⟩
                rw [← hyy] at hy hmx ⊢
                rw [← HZ.out] at hy
                have hcs : (et ≠ t ∧ OD (d + 1) = OD d) ∨ (et = t ∧ y * 2 ≤ z ∧ OD (d + 1) = OD d) ∨ (et = t ∧ z < y * 2 ∧ OD (d + 1) = x) := by
                  rw [HOO.out, hmx]
                  by_cases h5 : et = t
                  · by_cases h6 : z < 2 * y
                    · exact .inr (.inr ⟨h5, by omega, by rw [if_pos ⟨h5, by simpa using h6⟩]⟩)
                    · exact .inr (.inl ⟨h5, by omega, by rw [if_neg (fun g => h6 (by simpa using g.2))]⟩)
                  · exact .inl ⟨h5, by rw [if_neg (fun g => h5 g.1)]⟩
                clear hyy hmx
                rcases hcs with ⟨h5, hE⟩ | ⟨h5, h6, hE⟩ | ⟨h5, h6, hE⟩
                · have d5 : (et == t) = false := by simpa using h5
                  have HE := Lib.hid hE
                  clear hE h5
                  go_wp2_with fail
                  go_roundw
                  case rel => exact ⟨d + 1, by omega, by omega, by rw [HX.out]; go_num, by rw [HE.out], HB6.out⟩
                  case measure => first | (simp [intOf]; done) | (simp [intOf]; omega)
                · have d5 : (et == t) = true := by simpa using h5
                  have d6 : decide ((z : Int) < 2 * (y : Int)) = false := by simp; omega
                  have HE := Lib.hid hE
                  clear hE h5 h6
                  go_wp2_with fail
                  go_roundw
                  case rel => exact ⟨d + 1, by omega, by omega, by rw [HX.out]; go_num, by rw [HE.out], HB6.out⟩
                  case measure => first | (simp [intOf]; done) | (simp [intOf]; omega)
                · have d5 : (et == t) = true := by simpa using h5
                  have d6 : decide ((z : Int) < 2 * (y : Int)) = true := by simp; omega
                  have HE := Lib.hid hE
                  clear hE h5 h6
                  go_wp2_with fail
                  go_roundw
                  case rel => exact ⟨d + 1, by omega, by omega, by rw [HX.out]; go_num, by rw [HE.out], HB6.out⟩
                  case measure => first | (simp [intOf]; done) | (simp [intOf]; omega)
          · obtain rfl : d = len := by omega
            have hxl : la < x := by have := HLA.out; omega
            clear hx
            go_wp2_with fail
            go_ret2
            exact ⟨rfl, HB.out.2.2⟩
end Go.Proofs.Ytninhjeiialbjaa
