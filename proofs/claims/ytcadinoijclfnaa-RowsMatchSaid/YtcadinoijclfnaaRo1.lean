/-
  slices.Grow and slices.Concat of rows of sessions.
-/
import Derived.Lib.AppendZeros
import Derived.Test.YtcadinoijclfnaaLz
import Derived.Test.YtcadinoijclfnaaAs3
namespace Go.Proofs.Ytcadinoijclfnaa
open Go.RowKit
set_option linter.unusedSimpArgs false
set_option linter.unusedVariables false

def zeroEn : Value := .agg #[.int .i64 0, .int .i8 0, .int .i64 0, .int .u8 0, .slice none 0 0]
theorem infoEn : (Try.prog.info? 47).map (fun i => (i.zero, i.size, i.bytes)) = some (some zeroEn, 5, 56) := by kernel_rfl

set_option maxRecDepth 100000 in
set_option maxHeartbeats 4000000 in
theorem grow_en (n : Nat) (w : World) (h0 : 0 < n) (h1 : n ≤ 5000) :
    Calls Try.prog 58 #[.slice none 0 0, .int .i64 (n : Nat)] w fun e w' => ∃ v g, e = .returned v ∧ Row w' v (some g) 47 5 0 [] ∧ w.heap.size ≤ g ∧ Below w.heap.size w w' := by
  obtain ⟨i0, hi, hz0, hz1, hz2⟩ := info_parts infoEn
  have hrun := Lib.run_append_nil_zeros (P := Try.prog) w 22 3 22 47 i0 zeroEn .i64 .i64 Try.underlying22 Try.underlying3 hi hz0 n h0 (by rw [hz1]; omega) (by omega) (by rw [hz2]; omega)
  obtain ⟨G, hG⟩ : ∃ G, G = grownCap w n 0 47 := ⟨_, rfl⟩
  have hG1 : n ≤ G := by rw [hG]; exact grownCap_ge w n 0 _
  have hG2 : G ≤ maxLen := by rw [hG]; exact grownCap_le_maxLen w n 0 _ (by unfold maxLen; omega)
  rw [← hG] at hrun
  have HROW : Hid (Row (w.drew.alloc (.cells (Builtin.zeroCells zeroEn.cells n ++ Builtin.zeroCells zeroEn.cells (G - n)) 47)) (.slice (some ⟨w.heap.size, 0, none⟩) 0 G) (some w.heap.size) 47 5 0 []) :=
    Lib.hid (Row.mk (heap_alloc_new w.drew _) (Nat.zero_le _) hG2 (by simp only [Array.size_append, size_zeroCells]; show n * 5 + (G - n) * 5 = G * 5; omega) (by simp))
  have HBL : Hid (Below w.heap.size w (w.drew.alloc (.cells (Builtin.zeroCells zeroEn.cells n ++ Builtin.zeroCells zeroEn.cells (G - n)) 47))) := Lib.hid ((Below.refl _ _).drew.alloc (Nat.le_refl _) _)
  obtain ⟨W1, hW1⟩ : ∃ W1, W1 = w.drew.alloc (.cells (Builtin.zeroCells zeroEn.cells n ++ Builtin.zeroCells zeroEn.cells (G - n)) 47) := ⟨_, rfl⟩
  rw [← hW1] at hrun HROW HBL
  have HRUN := Lib.hid hrun
  unfold maxLen at hG2
  clear hG hi hz0 hz1 hz2 hrun hW1
  go_enter Try.func58, Try.ntmps58
  go_wp2_with (at_builtin; refine Lib.wpList_append_run _ rfl (.tmp 20) (.tmp 21) 22 3 rfl _ _ rfl rfl _ _ HRUN.out ?_)
  go_wp2_with fail
  go_ret
  exact ⟨_, _, rfl, HROW.out, Nat.le_refl _, HBL.out⟩

set_option maxRecDepth 100000 in
set_option maxHeartbeats 4000000 in
theorem grow_all (n : Nat) (w : World) (h1 : n ≤ 5000) :
    Calls Try.prog 58 #[.slice none 0 0, .int .i64 (n : Nat)] w fun e w' => ∃ v ob, e = .returned v ∧ Row w' v ob 47 5 0 [] ∧ (∀ g, ob = some g → w.heap.size ≤ g) ∧ Below w.heap.size w w' := by
  by_cases h0 : n = 0
  · subst h0
    go_enter Try.func58, Try.ntmps58
    go_wp2_with fail
    go_ret
    exact ⟨_, none, rfl, Row.nil _ _ _, (fun g e => by cases e), Below.refl _ _⟩
  · refine (grow_en n w (by omega) h1).mono ?_
    rintro e w' ⟨v, g, rfl, hr, hg, hB⟩
    exact ⟨v, some g, rfl, hr, (fun g' e => by obtain rfl := Option.some.inj e; exact hg), hB⟩

/-- a piece: where it lies, and its cells -/
structure PcE where
  a : Option Addr
  n : Nat
  c : Nat
  b : Nat
  o : Nat
  xs : List Value
structure PcIn (W : World) (p : PcE) : Prop where
  len : p.xs.length = p.n * 5
  le : p.n ≤ p.c
  max : p.c ≤ maxLen
  at_ : 0 < p.n → p.a = some ⟨p.b, p.o, none⟩ ∧ p.b < W.heap.size
  cell : ∀ j, j < p.n * 5 → W.cell? ⟨p.b, p.o + j, none⟩ = p.xs[j]?
  one : ∀ u ∈ p.xs, u.oneCell' = true
theorem PcIn.below {W W' : World} {p : PcE} (h : PcIn W p) (hB : Below W.heap.size W W') : PcIn W' p :=
  ⟨h.len, h.le, h.max, fun hk => ⟨(h.at_ hk).1, by have := (h.at_ hk).2; have := hB.size; omega⟩, fun j hj => (hB.cell (p := ⟨p.b, _, none⟩) (h.at_ (by omega)).2).trans (h.cell j hj), h.one⟩
def cntP (P : Nat → PcE) : Nat → Nat
  | 0 => 0
  | k + 1 => cntP P k + (P k).n
def flatP (P : Nat → PcE) : Nat → List Value
  | 0 => []
  | k + 1 => flatP P k ++ (P k).xs
theorem cntP_le {P : Nat → PcE} {k m : Nat} (h : k ≤ m) : cntP P k ≤ cntP P m := by
  induction m with
  | zero => obtain rfl : k = 0 := by omega
            exact Nat.le_refl _
  | succ m ih =>
    by_cases hk : k = m + 1
    · subst hk; exact Nat.le_refl _
    · have := ih (by omega); simp only [cntP]; omega

set_option maxRecDepth 100000 in
set_option maxHeartbeats 8000000 in
theorem concat_en (g cg K : Nat) (P : Nat → PcE) (w : World) (hg : g < w.heap.size) (hcg : K ≤ cg) (hcg2 : cg ≤ 5000) (hc : ∀ k, k < K → w.cell? ⟨g, k, none⟩ = some (.slice (P k).a (P k).n (P k).c)) (hp : ∀ k, k < K → PcIn w (P k)) (h5 : cntP P K ≤ 5000) :
    Calls Try.prog 49 #[.slice (some ⟨g, 0, none⟩) K cg] w fun e w' => ∃ v ob, e = .returned v ∧ Row w' v ob 47 5 (cntP P K) (flatP P K) ∧ (∀ g, ob = some g → w.heap.size ≤ g) ∧ Below w.heap.size w w' := by
  obtain ⟨i0, hi, hz0, hz1, hz2⟩ := info_parts infoEn
  have HI := Lib.hid hi
  have HZ0 := Lib.hid hz0
  have HZ1 := Lib.hid hz1
  have HZ2 := Lib.hid hz2
  have HC := Lib.hid hc
  have HP := Lib.hid hp
  have HGR := Lib.hid (grow_all (cntP P K))
  clear hc hp hi hz0 hz1 hz2
  obtain ⟨T, hT⟩ : ∃ T, T = cntP P K := ⟨_, rfl⟩
  rw [← hT] at h5
  have HTT := Lib.hid hT
  clear hT
  go_enter Try.func49, Try.ntmps49
  go_wp2_with fail
  go_loopw [3, 11] (fun s i wr => ∃ k : Nat, k ≤ K ∧ i = .int .i64 k ∧ s = .int .i64 (cntP P k : Nat) ∧ Below w.heap.size w wr) (fun _ i _ => K - (intOf i).toNat)
  case atStart => exact ⟨0, by omega, rfl, rfl, Below.refl _ _⟩
  case round =>
    obtain ⟨k, hk, rfl, rfl, hB⟩ := hrel
    have HBB := Lib.hid hB
    clear hB
    obtain ⟨s, hs⟩ : ∃ s, s = cntP P k := ⟨_, rfl⟩
    have hsT : s ≤ T := by rw [hs, HTT.out]; exact cntP_le hk
    rw [← hs]
    have HSS := Lib.hid hs
    clear hs
    by_cases hlt : k < K
    · have k0 := (HBB.out.cell (p := ⟨g, k, none⟩) hg).trans (HC.out k hlt)
      obtain ⟨p, hpp⟩ : ∃ p, p = P k := ⟨_, rfl⟩
      have hq := HP.out k hlt
      rw [← hpp] at k0 hq
      have q1 := hq.le
      have q2 := hq.max
      have hnx : s + p.n ≤ T := by rw [HSS.out, hpp, HTT.out]; exact cntP_le (k := k + 1) hlt
      have HPP := Lib.hid hpp
      unfold maxLen at q2
      obtain ⟨pa, pn, pc, pb, po, px⟩ := p
      simp only at k0 q1 q2 hnx
      clear hpp hq
      have d0 : decide ((s : Int) + pn < 0) = false := by simp; omega
      go_wp2_with fail
      go_roundw
      case rel => exact ⟨k + 1, by omega, by go_num, by rw [cntP, ← HPP.out, ← HSS.out]; go_num, HBB.out⟩
      case measure => first | (simp [intOf]; done) | (simp [intOf]; omega)
    · obtain rfl : k = K := by omega
      have hsT2 : s = T := by rw [HSS.out, HTT.out]
      rw [← HTT.out, ← hsT2] at HGR
      clear hsT2
      go_wp2_with fail
      go_at_call 58
      refine (HGR.out _ (by omega)).mono ?_
      rintro e W2 ⟨v, ob, rfl, hr, hob, hB2⟩
      have HR := Lib.hid hr
      have HOB : Hid (∀ g, ob = some g → w.heap.size ≤ g) := Lib.hid (fun g e => Nat.le_trans HBB.out.size (hob g e))
      have HB2 := Lib.hid (HBB.out.trans (hB2.mono HBB.out.size))
      clear hr hob hB2
      go_wp2_with fail
      go_loopw [6, 27] (fun v i wr => ∃ (q : Nat) (ob : Option Nat), q ≤ k ∧ i = .int .i64 q ∧ Row wr v ob 47 5 (cntP P q) (flatP P q) ∧ (∀ g, ob = some g → w.heap.size ≤ g) ∧ Below w.heap.size w wr) (fun _ i _ => k - (intOf i).toNat)
      case atStart => exact ⟨0, ob, by omega, rfl, HR.out, HOB.out, HB2.out⟩
      case round =>
        clear HR HOB HB2
        obtain ⟨q, ob, hk, rfl, hr, hob, hB⟩ := hrel
        obtain ⟨av, cv, hv, hcv1, hcv2, hav⟩ := hr.shape
        clear hav
        subst hv
        unfold maxLen at hcv2
        have HR := Lib.hid hr
        have HOB := Lib.hid hob
        have HB3 := Lib.hid hB
        clear hr hob hB
        by_cases hlt2 : q < k
        · have k0 := (HB3.out.cell (p := ⟨g, q, none⟩) hg).trans (HC.out q hlt2)
          obtain ⟨p, hpp⟩ : ∃ p, p = P q := ⟨_, rfl⟩
          have hq := (HP.out q hlt2).below HB3.out
          rw [← hpp] at k0 hq
          have q1 := hq.le
          have q2 := hq.max
          have hnx : cntP P q + p.n ≤ T := by rw [hpp, HTT.out]; exact cntP_le (P := P) (k := q + 1) hlt2
          obtain ⟨z, hz⟩ : ∃ z, z = cntP P q := ⟨_, rfl⟩
          rw [← hz] at hnx hcv1 HR ⊢
          have HZ := Lib.hid hz
          have HPQ := Lib.hid hq
          have HPP := Lib.hid hpp
          unfold maxLen at q2
          obtain ⟨pa, pn, pc, pb, po, px⟩ := p
          simp only at k0 q1 q2 hnx
          clear hpp hq hz
          by_cases hp0 : pn = 0
          · have HP0 := Lib.hid hp0
            clear hp0
            go_wp2_with (at_builtin; refine wpList_append_row_zero _ rfl (.tmp 31) (.tmp 32) 22 rfl 47 i0 5 Try.underlying22 HI.out _ ob z (flatP P q) rfl HR.out pa pc (show Value.slice pa pn pc = .slice pa 0 pc by rw [HP0.out]) ?_)
            go_wp2_with fail
            go_roundw
            case rel =>
              refine ⟨q + 1, ob, by omega, by go_num, ?_, HOB.out, HB3.out⟩
              have e1 : cntP P (q + 1) = z := by rw [cntP, ← HPP.out, ← HZ.out]; simp only [HP0.out]; rfl
              have e2 : flatP P (q + 1) = flatP P q := by
                have h9 : px.length = pn * 5 := HPQ.out.len
                have hnil : px = [] := List.eq_nil_of_length_eq_zero (by rw [h9, HP0.out])
                rw [flatP, ← HPP.out]
                simp [hnil]
              rw [e1, e2]
              exact HR.out
            case measure => first | (simp [intOf]; done) | (simp [intOf]; omega)
          · obtain ⟨e0, e1⟩ := HPQ.out.at_ (by simp only; omega)
            simp only at e0 e1
            subst e0
            have hb8 : ((z : Int) + (pn : Int)) * 56 ≤ 140737488355328 := by omega
            go_wp2_with (at_builtin; refine wpList_append_row _ rfl (.tmp 31) (.tmp 32) 22 rfl 47 i0 _ 5 56 Try.underlying22 HI.out HZ0.out HZ1.out HZ2.out rfl (by decide) _ ob z (flatP P q) rfl HR.out ⟨pb, po, none⟩ pn pc px rfl (by omega) HPQ.out.len ?c1 HPQ.out.one ?c3 ?c4 ?_)
            case c1 =>
              intro j u hu
              have hj : j < pn * 5 := by have := (List.getElem?_eq_some_iff.1 hu).1; have h9 := HPQ.out.len; simp only at h9; omega
              rw [addr_add]
              exact (HPQ.out.cell j hj).trans hu
            case c3 => unfold maxLen; omega
            case c4 => omega
            intro v' ob' W3 hrow3 hg3 hob3
            have hz9 := HB3.out.size
            have hob' : w.heap.size ≤ ob' := by
              rcases hob3 with h | h
              · exact HOB.out ob' h
              · omega
            have HB4 : Hid (Below w.heap.size w W3) := Lib.hid (HB3.out.grown hg3 (by omega) (fun g e => HOB.out g e))
            have HR4 : Hid (Row W3 v' (some ob') 47 5 (cntP P (q + 1)) (flatP P (q + 1))) := Lib.hid (by rw [cntP, flatP, ← HPP.out, ← HZ.out]; exact hrow3)
            have HO4 := Lib.hid hob'
            clear hrow3 hg3 hob3 hob'
            go_wp2_with fail
            go_roundw
            case rel => exact ⟨q + 1, some ob', by omega, by go_num, HR4.out, (fun g e => by obtain rfl := Option.some.inj e; exact HO4.out), HB4.out⟩
            case measure => first | (simp [intOf]; done) | (simp [intOf]; omega)
        · obtain rfl : q = k := by omega
          go_wp2_with fail
          go_ret
          exact ⟨_, ob, rfl, HR.out, HOB.out, HB3.out⟩
end Go.Proofs.Ytcadinoijclfnaa
