/-
  Does an order fit: the program.
-/
import Derived.Test.YthmjlomlceljkaaHif
import Derived.Test.YthmjlomlceljkaaHib
import Derived.Test.YthmjlomlceljkaaHi5
import Derived.Test.YthmjlomlceljkaaHi6
import Derived.Deep.DeepFit
import Derived.Lib.AppendZeros
import Derived.Deep.RegionLaw
import Derived.Deep.RegionWith
import Derived.Lib.EndianBits
import Derived.Deep.MidRow
namespace Go.Proofs.Ythmjlomlceljkaa
open Go.RowKit
set_option linter.unusedSimpArgs false
set_option linter.unusedVariables false

theorem tryL_out {L : List CaE} {D : Nat} {t : List FcE} {x : Int} {r : List Int} (h : x < 0 ∨ (L.length : Int) ≤ x) : tryL L D t (x :: r) = false := by simp only [tryL]; rw [if_pos h]
theorem tryL_in {L : List CaE} {D : Nat} {t : List FcE} {q : Nat} {r : List Int} (h : q < L.length) : tryL L D t ((q : Int) :: r) = if (D.testBit q || !stB D (gCa L q).fr 0 L) = true then false else if neA (gCa L q) (doC t (gCa L q)) = true then false else tryL L (D ||| 2 ^ q) (doC t (gCa L q)).l r := by
  simp only [tryL]
  rw [if_neg (by omega), Int.toNat_natCast]
theorem tryL_nil (L : List CaE) (D : Nat) (t : List FcE) : tryL L D t [] = alB D 0 L := rfl
theorem in_drop {L : List Int} {j : Nat} {x : Int} (h : L[j]? = some x) : L.drop j = x :: L.drop (j + 1) := by
  have hj : j < L.length := (List.getElem?_eq_some_iff.1 h).1
  rw [List.drop_eq_getElem_cons hj]
  congr 1
  exact (List.getElem?_eq_some_iff.1 h).2
set_option maxRecDepth 100000 in
set_option maxHeartbeats 24000000 in
theorem try_any (v vo : Value) (L : List CaE) (ord : List Int) (w : World) (h : CaV w v L) (ho : InV w vo ord) : Calls Try.prog 25 #[v, vo] w fun e w' => e = .returned (.tuple #[.bool (ckB L && tryL L 0 [] ord), .int .i64 (fitsE L)]) ∧ Below w.heap.size w w' := by
  obtain ⟨a, n, cap, rfl, HN, m1, m2⟩ := h.sh
  obtain ⟨ia, iN, ic, rfl, Hin, in1, in2⟩ := ho.sh
  have HL0 := Lib.hid h
  have HL := Lib.hid h
  have HI0 := Lib.hid ho
  have HI := Lib.hid ho
  have HCK := Lib.hid (fun W (h : CaV W (.slice a n cap) L) => check_any _ L W h)
  obtain ⟨C, hC⟩ : ∃ C, C = ckB L := ⟨_, rfl⟩
  rw [← hC] at HCK
  rw [← hC]
  have HC := Lib.hid hC
  obtain ⟨E, hE⟩ : ∃ E, E = fitsE L := ⟨_, rfl⟩
  rw [← hE]
  unfold fitsE at hE
  have HE := Lib.hid hE
  obtain ⟨R, hR⟩ : ∃ R, R = tryL L 0 [] ord := ⟨_, rfl⟩
  rw [← hR]
  have HR := Lib.hid hR
  clear hC hE h ho hR
  have HB : Hid (Below w.heap.size w w) := Lib.hid (Below.refl _ _)
  go_enter Try.func25, Try.ntmps25
  go_wp2_with fail
  go_at_call 23
  go_fit (HCK.out _ HL.out)
  rintro e W1 ⟨rfl, hB⟩
  replace HB := Lib.hid (HB.out.trans (hB.mono HB.out.size))
  replace HL := Lib.hid (HL0.out.below HB.out)
  replace HI := Lib.hid (HI0.out.below HB.out)
  clear hB
  cases C
  · skip
    rw [← HC.out, if_neg (by decide)] at HE
    have q3 := HE.out
    subst q3
    go_wp2_with fail
    exact bodyPost_ret (v := .tuple #[.bool false, .int .i64 2]) (by simp [results, Try.results25, go_sem]) rfl ⟨rfl, HB.out⟩
  rw [← HC.out, if_pos rfl] at HE
  have q3 := HE.out
  subst q3
  have hck : ckB L = true := HC.out.symm
  have hL12 : L.length ≤ 12 := by unfold ckB at hck; simp only [Bool.and_eq_true, decide_eq_true_eq] at hck; exact hck.1
  have hn12 : n ≤ 12 := by have := HN.out; omega
  have HL12 := Lib.hid hL12
  clear hck hL12
  go_wp2_with fail
  go_loopw [6, 7, 9, 10, 16] (fun vd vt _ _ i wr => ∃ (j D : Nat) (t : List FcE) (ot : Option Nat), j ≤ iN ∧ i = .int .i64 j ∧ vd = .int .u64 (D : Nat) ∧ D < 4096 ∧ tblB 0 t = true ∧ FcO 0 wr vt ot t ∧ R = tryL L D t (ord.drop j) ∧ Below w.heap.size w wr) (fun _ _ _ _ i _ => iN - (intOf i).toNat)
  case atStart => exact ⟨0, 0, [], none, Nat.zero_le _, rfl, rfl, by omega, rfl, fco_nil _ _, HR.out, HB.out⟩
  case round =>
    clear HB HL HI
    obtain ⟨j, D, t, ot, hj, rfl, rfl, hD, ht, hT, hR, hB⟩ := hrel
    have HB := Lib.hid hB
    have HD := Lib.hid hD
    have HTB := Lib.hid ht
    have HT := Lib.hid hT
    have HRT := Lib.hid hR
    have HL := Lib.hid (HL0.out.below HB.out)
    have HI := Lib.hid (HI0.out.below HB.out)
    obtain ⟨st, hst⟩ := hT.v.sh
    clear hB hD ht hR
    obtain ⟨tN, tc, rfl, Htn, tn1, tn2⟩ := hst
    clear hT
    by_cases hlt : j < iN
    rotate_left
    · obtain rfl : j = iN := by omega
      have hfin : R = alB D 0 L := by rw [HRT.out, Hin.out, List.drop_length]; rfl
      have HIA := Lib.hid (fun W (h : CaV W (.slice a n cap) L) => isAll_any D _ L W h HD.out HL12.out)
      rw [← hfin] at HIA
      clear hfin
      go_wp2_with fail
      go_at_call 54
      go_fit (HIA.out _ HL.out)
      rintro e W2 ⟨rfl, hB⟩
      replace HB := Lib.hid (HB.out.trans (hB.mono HB.out.size))
      replace HL := Lib.hid (HL0.out.below HB.out)
      replace HI := Lib.hid (HI0.out.below HB.out)
      replace HT := Lib.hid (HT.out.step hB)
      clear hB
      go_wp2_with fail
      exact bodyPost_ret (v := .tuple #[.bool R, .int .i64 0]) (by simp [results, Try.results25, go_sem]) rfl ⟨by simp, HB.out⟩
    obtain ⟨ig, io, x, ea, ig1, hx, c0⟩ := HI.out.at j hlt
    subst ea
    have hdr := HRT.out
    rw [in_drop hx] at hdr
    have HDR := Lib.hid hdr
    have HLT := Lib.hid hlt
    have ww5 : IntKind.i64.wrap ((j : Int) + 1) = (j : Int) + 1 := IntWalk.i64_in _ (by omega)
    have bj9 : ((j : Int) < (iN : Int)) = True := eq_true (by omega)
    have bj1 : (j < iN) = True := eq_true hlt
    clear hx hdr
    by_cases hneg : x < 0
    · skip
      have d1 : decide (x < 0) = true := decide_eq_true hneg
      have hr : R = false := by rw [HDR.out]; exact tryL_out (.inl hneg)
      subst hr
      go_wp2_with fail
      exact bodyPost_ret (v := .tuple #[.bool false, .int .i64 0]) (by simp [results, Try.results25, go_sem]) rfl ⟨by simp, HB.out⟩
    have d1 : decide (x < 0) = false := decide_eq_false hneg
    by_cases hge : (n : Int) ≤ x
    · skip
      have d2 : decide ((n : Int) ≤ x) = true := decide_eq_true hge
      have hr : R = false := by rw [HDR.out]; exact tryL_out (.inr (by have := HN.out; omega))
      subst hr
      go_wp2_with fail
      exact bodyPost_ret (v := .tuple #[.bool false, .int .i64 0]) (by simp [results, Try.results25, go_sem]) rfl ⟨by simp, HB.out⟩
    obtain ⟨q, rfl⟩ : ∃ q : Nat, x = q := ⟨x.toNat, by omega⟩
    have hqn : q < n := by omega
    have d2 : decide ((n : Int) ≤ (q : Int)) = false := decide_eq_false hge
    have d2' : decide (n ≤ q) = false := decide_eq_false (by omega)
    have HQN := Lib.hid hqn
    obtain ⟨g, o, z, ez, g1, hz, hld, hrg⟩ := HL.out.ld q hqn
    subst ez
    clear hld hrg
    have hgz : gCa L q = z := gCa_of hz
    have HZ := Lib.hid hz
    have hst := HDR.out
    rw [tryL_in (by rw [← HN.out]; exact hqn), hgz] at hst
    have HST := Lib.hid hst
    have HH := Lib.hid (fun W => has_any D q W HD.out (by omega))
    have HM := Lib.hid (fun W (h : CaV W (.slice (some ⟨g, o, none⟩) n cap) L) => mayStand_any D q _ L W h HD.out HL12.out (by rw [← HN.out]; exact hqn))
    rw [hgz] at HM
    obtain ⟨b1, hb1⟩ : ∃ b, b = D.testBit q := ⟨_, rfl⟩
    obtain ⟨b2, hb2⟩ : ∃ b, b = stB D z.fr 0 L := ⟨_, rfl⟩
    rw [← hb1] at HH
    rw [← hb2] at HM
    rw [← hb1, ← hb2] at HST
    have bk9 : ((q : Int) < (n : Int)) = True := eq_true (by omega)
    have bk1 : (q < n) = True := eq_true hqn
    clear hz hgz hst hb1 hb2 hneg hge
    cases b1
    rotate_left
    · skip
      have hr : R = false := by rw [HST.out]; simp
      subst hr
      go_wp2_with (go_at_call 52; refine Calls.mono (HH.out _) ?_; rintro e w' ⟨rfl, rfl⟩)
      exact bodyPost_ret (v := .tuple #[.bool false, .int .i64 0]) (by simp [results, Try.results25, go_sem]) rfl ⟨by simp, HB.out⟩
    go_wp2_with fail
    go_at_call 52
    go_fit (HH.out _)
    rintro e w' ⟨rfl, rfl⟩
    go_wp2_with fail
    go_at_call 53
    go_fit (HM.out _ HL.out)
    rintro e W2 ⟨rfl, hB⟩
    replace HB := Lib.hid (HB.out.trans (hB.mono HB.out.size))
    replace HL := Lib.hid (HL0.out.below HB.out)
    replace HI := Lib.hid (HI0.out.below HB.out)
    replace HT := Lib.hid (HT.out.step hB)
    clear hB
    cases b2
    · skip
      have hr : R = false := by rw [HST.out]; simp
      subst hr
      go_wp2_with fail
      exact bodyPost_ret (v := .tuple #[.bool false, .int .i64 0]) (by simp [results, Try.results25, go_sem]) rfl ⟨by simp, HB.out⟩
    obtain ⟨A, hA⟩ : ∃ A, A = doC t z := ⟨_, rfl⟩
    rw [← hA] at HST
    have HDO := Lib.hid (fun W (h : FcV W (.slice st tN tc) t) => do_any z _ t W h (by have := tbl_len16 HTB.out; omega))
    rw [← hA] at HDO
    have HA := Lib.hid hA
    clear hA
    go_upto_region 11 with fail
    obtain ⟨Q, hQ⟩ : ∃ n0, n0 = W2.heap.size := ⟨_, rfl⟩
    have HLOQ : Hid (w.heap.size ≤ Q) := Lib.hid (by have := HB.out.size; omega)
    obtain ⟨W3, hA0⟩ : ∃ W0, W0 = W2.alloc (.cells #[.int .i64 0, .int .i64 0, .int .i64 0, .int .i64 0, .int .i64 0] 54) := ⟨_, rfl⟩
    have hB : Below W2.heap.size W2 W3 := by rw [hA0]; exact (Below.refl _ _).alloc (Nat.le_refl _) _
    have hS0 : W3.heap.size = Q + 1 := by rw [hA0]; simp [← hQ]
    have HQ := Lib.hid (show Blk W3 Q #[.int .i64 0, .int .i64 0, .int .i64 0, .int .i64 0, .int .i64 0] 54 by rw [hA0, hQ]; exact blk_new _ _ _)
    replace HB := Lib.hid (HB.out.trans (hB.mono HB.out.size))
    replace HL := Lib.hid (HL0.out.below HB.out)
    replace HI := Lib.hid (HI0.out.below HB.out)
    replace HT := Lib.hid (HT.out.step hB)
    clear hB
    have HSQ := Lib.hid hS0
    rw [← hQ, ← hA0]
    clear hA0 hQ hS0
    have HRG13 := Lib.hid (ca_range13 (HL.out.rg hqn HZ.out))
    have qQ0 : W3.cell? ⟨Q, 0, none⟩ = some (.int .i64 0) := cell_at HQ.out 0
    have qQ1 : W3.cell? ⟨Q, 1, none⟩ = some (.int .i64 0) := cell_at HQ.out 1
    have qQ2 : W3.cell? ⟨Q, 2, none⟩ = some (.int .i64 0) := cell_at HQ.out 2
    have qQ3 : W3.cell? ⟨Q, 3, none⟩ = some (.int .i64 0) := cell_at HQ.out 3
    have qQ4 : W3.cell? ⟨Q, 4, none⟩ = some (.int .i64 0) := cell_at HQ.out 4
    have qQz : ∀ j, W3.frozen? ⟨Q, j, none⟩ = false := fun j => free_at HQ.out j
    have qQl : Q < W3.heap.size := HQ.out.lt
    go_wp2_with (refine wpList_load_mid rfl 51 (.tmp 45) rfl g (o + q * 20) rfl [.int .i8 z.kind, .int .i64 z.client, .int .i64 z.number, .int .i64 z.tenant, .int .i64 z.crate, .int .i64 z.cburst, .int .i64 z.shaper, .int .i64 z.epoch, .int .i64 z.clease, .int .i64 z.csize, .int .i64 z.spent, .bool z.closed, .slice z.lsa z.lsn z.lsc] _ (by exact HRG13.out) Try.underlying51 rfl (by kernel_rfl) ?_)
    go_at_call 20
    go_fit (HDO.out _ HT.out.v)
    rintro e W4 ⟨v2, ob2, rfl, ho2, hB⟩
    clear HRG13 HDO
    clear qQ0 qQ1 qQ2 qQ3 qQ4 qQz qQl
    replace HB := Lib.hid (HB.out.trans (hB.mono HB.out.size))
    replace HL := Lib.hid (HL0.out.below HB.out)
    replace HI := Lib.hid (HI0.out.below HB.out)
    replace HT := Lib.hid (HT.out.step hB)
    replace HQ := Lib.hid (HQ.out.step hB)
    clear hB
    have HT2 := Lib.hid (ho2.le (Nat.zero_le _))
    obtain ⟨a2, n2, c2, rfl, H2, q21, q22⟩ := ho2.v.sh
    clear ho2
    clear HT
    have qQ0 : W4.cell? ⟨Q, 0, none⟩ = some (.int .i64 0) := cell_at HQ.out 0
    have qQ1 : W4.cell? ⟨Q, 1, none⟩ = some (.int .i64 0) := cell_at HQ.out 1
    have qQ2 : W4.cell? ⟨Q, 2, none⟩ = some (.int .i64 0) := cell_at HQ.out 2
    have qQ3 : W4.cell? ⟨Q, 3, none⟩ = some (.int .i64 0) := cell_at HQ.out 3
    have qQ4 : W4.cell? ⟨Q, 4, none⟩ = some (.int .i64 0) := cell_at HQ.out 4
    have qQz : ∀ j, W4.frozen? ⟨Q, j, none⟩ = false := fun j => free_at HQ.out j
    have qQl : Q < W4.heap.size := HQ.out.lt
    go_upto_region 12 with fail
    clear qQ0 qQ1 qQ2 qQ3 qQ4 qQz qQl
    obtain ⟨LS, hLS⟩ : ∃ L : List Value, L = [.int .i64 A.e, .int .i64 A.r, .int .i64 A.b, .int .i64 0, .int .i64 0] := ⟨_, rfl⟩
    obtain ⟨W5, hWS⟩ : ∃ WS, WS = W4.setCells Q 0 LS := ⟨_, rfl⟩
    have hch := hWS
    rw [hLS] at hch
    simp only [World.setCells, Nat.zero_add, Nat.reduceAdd] at hch
    rw [← hch]
    clear hch
    have hkS := stC_blk HQ.out LS (by rw [hLS]; rfl)
    have hfS := stC_fr Q LS 0 W4
    rw [← hWS] at hkS hfS
    rw [hLS] at hkS
    replace HB := Lib.hid (HB.out.trans (hfS.below HB.out.size (by have := HLOQ.out; simp; try omega)))
    replace HL := Lib.hid (HL0.out.below HB.out)
    replace HI := Lib.hid (HI0.out.below HB.out)
    replace HT2 := Lib.hid (HT2.out.frT HQ.out hfS (by decide))
    replace HQ := Lib.hid (show Blk W5 Q #[.int .i64 A.e, .int .i64 A.r, .int .i64 A.b, .int .i64 0, .int .i64 0] 54 from hkS)
    clear hWS hLS hkS hfS
    have hrg := HL.out.rg HQN.out HZ.out
    have z14 : W5.cell? ⟨g, o + q * 20 + 14, none⟩ = some (.int .i64 z.til) := hrg 14 _ rfl
    have z15 : W5.cell? ⟨g, o + q * 20 + 15, none⟩ = some (.int .i64 z.e) := hrg 15 _ rfl
    have z16 : W5.cell? ⟨g, o + q * 20 + 16, none⟩ = some (.int .i64 z.rate) := hrg 16 _ rfl
    have z17 : W5.cell? ⟨g, o + q * 20 + 17, none⟩ = some (.int .i64 z.burst) := hrg 17 _ rfl
    have z18 : W5.cell? ⟨g, o + q * 20 + 18, none⟩ = some (.int .i64 z.lease) := hrg 18 _ rfl
    have z19 : W5.cell? ⟨g, o + q * 20 + 19, none⟩ = some (.int .i64 z.size) := hrg 19 _ rfl
    clear hrg
    have qQ0 : W5.cell? ⟨Q, 0, none⟩ = some (.int .i64 A.e) := cell_at HQ.out 0
    have qQ1 : W5.cell? ⟨Q, 1, none⟩ = some (.int .i64 A.r) := cell_at HQ.out 1
    have qQ2 : W5.cell? ⟨Q, 2, none⟩ = some (.int .i64 A.b) := cell_at HQ.out 2
    have qQ3 : W5.cell? ⟨Q, 3, none⟩ = some (.int .i64 0) := cell_at HQ.out 3
    have qQ4 : W5.cell? ⟨Q, 4, none⟩ = some (.int .i64 0) := cell_at HQ.out 4
    have qQz : ∀ j, W5.frozen? ⟨Q, j, none⟩ = false := fun j => free_at HQ.out j
    have qQl : Q < W5.heap.size := HQ.out.lt
    have hq := fun W => an_neq A.e A.r A.b 0 0 z.e z.rate z.burst z.lease z.size W
    obtain ⟨p, hqe⟩ : ∃ p, p = !(decide (A.e = z.e) && decide (A.r = z.rate) && decide (A.b = z.burst) && decide (0 = z.lease) && decide (0 = z.size)) := ⟨_, rfl⟩
    rw [← hqe] at hq
    have hne : neA z A = (decide (0 < z.til) && p) := by rw [hqe]; rfl
    rw [hne] at HST
    clear hqe hne
    by_cases t1 : 0 < z.til
    · skip
      have T1 := Lib.hid t1
      have q1 : decide (0 < z.til) = true := decide_eq_true t1
      rw [q1] at HST
      clear t1
      cases p
      rotate_left
      · skip
        have hr : R = false := by rw [HST.out]; simp
        subst hr
        go_wp2_with fail
        (refine wp_region_quiet_lit (by kernel_rfl) (by kernel_rfl) ?_; (repeat (first | go_big_quiet_step (fail) | (refine BigFrame.wpQuiet_skip (by rfl) ?_; try simp only [Act.put, List.setIfInBounds_toArray, List.set_cons_zero, List.set_cons_succ]))); refine wpQuiet_nil ?_; intro _ hw9; obtain ⟨nq, hw8⟩ := hw9; subst hw8)
        obtain ⟨W6, hWn⟩ : ∃ X, X = W5.drewN nq := ⟨_, rfl⟩
        rw [← hWn]
        have hB : Below W5.heap.size W5 W6 := by rw [hWn]; exact dN _ _
        clear hWn hq
        clear z14 z15 z16 z17 z18 z19 qQ0 qQ1 qQ2 qQ3 qQ4 qQz qQl
        replace HB := Lib.hid (HB.out.trans (hB.mono HB.out.size))
        replace HL := Lib.hid (HL0.out.below HB.out)
        replace HI := Lib.hid (HI0.out.below HB.out)
        replace HQ := Lib.hid (HQ.out.step hB)
        replace HT2 := Lib.hid (HT2.out.step hB)
        clear hB
        go_wp2_with fail
        exact bodyPost_ret (v := .tuple #[.bool false, .int .i64 0]) (by simp [results, Try.results25, go_sem]) rfl ⟨by simp, HB.out⟩
      go_wp2_with fail
      (refine wp_region_quiet_lit (by kernel_rfl) (by kernel_rfl) ?_; (repeat (first | go_big_quiet_step (fail) | (refine BigFrame.wpQuiet_skip (by rfl) ?_; try simp only [Act.put, List.setIfInBounds_toArray, List.set_cons_zero, List.set_cons_succ]))); refine wpQuiet_nil ?_; intro _ hw9; obtain ⟨nq, hw8⟩ := hw9; subst hw8)
      obtain ⟨W6, hWn⟩ : ∃ X, X = W5.drewN nq := ⟨_, rfl⟩
      rw [← hWn]
      have hB : Below W5.heap.size W5 W6 := by rw [hWn]; exact dN _ _
      clear hWn hq
      clear z14 z15 z16 z17 z18 z19 qQ0 qQ1 qQ2 qQ3 qQ4 qQz qQl
      replace HB := Lib.hid (HB.out.trans (hB.mono HB.out.size))
      replace HL := Lib.hid (HL0.out.below HB.out)
      replace HI := Lib.hid (HI0.out.below HB.out)
      replace HQ := Lib.hid (HQ.out.step hB)
      replace HT2 := Lib.hid (HT2.out.step hB)
      clear hB
      have hbit : bits .or .u64 (D : Int) (IntKind.u64.wrap (2 ^ q)) = ((D ||| 2 ^ q : Nat) : Int) := by
        have e2 : ((2 : Int) ^ q) = ((2 ^ q : Nat) : Int) := by rw [Int.natCast_pow]; rfl
        have h12 : 2 ^ q < 4096 := Nat.pow_lt_pow_right (n := 12) (by decide) (by have := HQN.out; omega)
        have hb := bit_put D q HD.out (by have := HQN.out; omega)
        rw [e2]
        obtain ⟨p, hp⟩ : ∃ p : Nat, p = 2 ^ q := ⟨_, rfl⟩
        rw [← hp] at hb h12 ⊢
        rw [wraps_u64 _ (by omega) (by omega)]
        exact hb
      go_wp2_with fail
      go_roundw
      case rel => exact ⟨j + 1, D ||| 2 ^ q, A.l, ob2, by have := HLT.out; omega, by go_num, by first | rfl | rw [hbit], bit_lt HD.out (by have := HQN.out; omega), by rw [HA.out]; exact tbl_do _ _ _ _ HTB.out, HT2.out, by rw [HST.out]; simp, HB.out⟩
      case measure => first | (simp [intOf]; done) | (simp [intOf]; omega)
    · skip
      have q1 : decide (0 < z.til) = false := decide_eq_false t1
      rw [q1] at HST
      clear t1
      go_wp2_with fail
      (refine wp_region_quiet_lit (by kernel_rfl) (by kernel_rfl) ?_; (repeat (first | go_big_quiet_step (fail) | (refine BigFrame.wpQuiet_skip (by rfl) ?_; try simp only [Act.put, List.setIfInBounds_toArray, List.set_cons_zero, List.set_cons_succ]))); refine wpQuiet_nil ?_; intro _ hw9; obtain ⟨nq, hw8⟩ := hw9; subst hw8)
      obtain ⟨W6, hWn⟩ : ∃ X, X = W5.drewN nq := ⟨_, rfl⟩
      rw [← hWn]
      have hB : Below W5.heap.size W5 W6 := by rw [hWn]; exact dN _ _
      clear hWn hq
      clear z14 z15 z16 z17 z18 z19 qQ0 qQ1 qQ2 qQ3 qQ4 qQz qQl
      replace HB := Lib.hid (HB.out.trans (hB.mono HB.out.size))
      replace HL := Lib.hid (HL0.out.below HB.out)
      replace HI := Lib.hid (HI0.out.below HB.out)
      replace HQ := Lib.hid (HQ.out.step hB)
      replace HT2 := Lib.hid (HT2.out.step hB)
      clear hB
      have hbit : bits .or .u64 (D : Int) (IntKind.u64.wrap (2 ^ q)) = ((D ||| 2 ^ q : Nat) : Int) := by
        have e2 : ((2 : Int) ^ q) = ((2 ^ q : Nat) : Int) := by rw [Int.natCast_pow]; rfl
        have h12 : 2 ^ q < 4096 := Nat.pow_lt_pow_right (n := 12) (by decide) (by have := HQN.out; omega)
        have hb := bit_put D q HD.out (by have := HQN.out; omega)
        rw [e2]
        obtain ⟨p, hp⟩ : ∃ p : Nat, p = 2 ^ q := ⟨_, rfl⟩
        rw [← hp] at hb h12 ⊢
        rw [wraps_u64 _ (by omega) (by omega)]
        exact hb
      go_wp2_with fail
      go_roundw
      case rel => exact ⟨j + 1, D ||| 2 ^ q, A.l, ob2, by have := HLT.out; omega, by go_num, by first | rfl | rw [hbit], bit_lt HD.out (by have := HQN.out; omega), by rw [HA.out]; exact tbl_do _ _ _ _ HTB.out, HT2.out, by rw [HST.out]; simp, HB.out⟩
      case measure => first | (simp [intOf]; done) | (simp [intOf]; omega)
end Go.Proofs.Ythmjlomlceljkaa
