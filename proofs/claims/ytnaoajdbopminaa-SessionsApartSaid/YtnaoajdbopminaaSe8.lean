/-
  Keep: the document's.
-/
import Derived.Test.YtnaoajdbopminaaSe7
namespace Go.Proofs.Ytnaoajdbopminaa
open Go.RowKit
set_option linter.unusedSimpArgs false
set_option linter.unusedVariables false

/-- how many stand behind i of n -/
def cI (S : Nat → SeE) (n : Nat) (c : Int) (i : Nat) : Nat := if i ≤ cutS S c n then i else cutS S c n + 1 + (i - cutS S c n - dS S n c)
theorem cI_end (S : Nat → SeE) (n : Nat) (c : Int) (h : cutS S c n < n) : cI S n c n = mK S n c := by
  unfold cI mK
  rw [if_neg (by omega)]
theorem dS_le (S : Nat → SeE) (n : Nat) (c : Int) : dS S n c ≤ 1 := by unfold dS; split <;> omega

theorem one_se (W : World) (x : SeE) (t : TypeId) : ∀ j u, x.cells[j]? = some u → (W.alloc (.cells #[.int .i64 x.client, .int .i64 x.number, .int .i64 x.e, .int .i64 x.rate, .int .i64 x.burst, .int .i64 x.lease, .int .i64 x.size] t)).cell? ((⟨W.heap.size, 0, none⟩ : Addr).add j) = some u := by
  intro j u hj
  have hb : Blk (W.alloc (.cells #[.int .i64 x.client, .int .i64 x.number, .int .i64 x.e, .int .i64 x.rate, .int .i64 x.burst, .int .i64 x.lease, .int .i64 x.size] t)) W.heap.size #[.int .i64 x.client, .int .i64 x.number, .int .i64 x.e, .int .i64 x.rate, .int .i64 x.burst, .int .i64 x.lease, .int .i64 x.size] t := blk_new _ _ _
  rw [addr_add, Nat.zero_add, cell_at hb, ← hj]
  simp [SeE.cells]
theorem sec_one (x : SeE) : ∀ u ∈ x.cells, u.oneCell' = true := by
  intro u hu
  have : x.cells.all (fun u => u.oneCell') = true := rfl
  exact List.all_eq_true.1 this u hu

/-- what the document's loop keeps -/
def RkI (S : Nat → SeE) (n : Nat) (x : SeE) (w : World) (M i : Nat) (v : Value) (W : World) : Prop :=
  ∃ ob, Row W v ob 113 7 (cI S n x.client i) (seL (TK S n x.client x) (cI S n x.client i)) ∧ (∀ g, ob = some g → M < g) ∧ Blk W M #[.int .i64 x.client, .int .i64 x.number, .int .i64 x.e, .int .i64 x.rate, .int .i64 x.burst, .int .i64 x.lease, .int .i64 x.size] 113 ∧ Below w.heap.size w W

/-- one more in the row -/
theorem RkI.grow {S : Nat → SeE} {n : Nat} {x y : SeE} {w W W3 : World} {M m : Nat} {ob : Option Nat} {v3 : Value} {ob3 : Nat}
    (hM : w.heap.size ≤ M) (hMb : Blk W M #[.int .i64 x.client, .int .i64 x.number, .int .i64 x.e, .int .i64 x.rate, .int .i64 x.burst, .int .i64 x.lease, .int .i64 x.size] 113) (hB : Below w.heap.size w W) (hg : ∀ g, ob = some g → M < g)
    (hrow : Row W3 v3 (some ob3) 113 7 (m + 1) (seL (TK S n x.client x) m ++ y.cells)) (hT : TK S n x.client x m = y)
    (o : Obj) (hgr : (W.alloc o).grownBy W3 ob) (hob : ob = some ob3 ∨ ob3 = W.heap.size + 1) :
    (Row W3 v3 (some ob3) 113 7 (m + 1) (seL (TK S n x.client x) (m + 1)) ∧ (∀ g, some ob3 = some g → M < g) ∧ Blk W3 M #[.int .i64 x.client, .int .i64 x.number, .int .i64 x.e, .int .i64 x.rate, .int .i64 x.burst, .int .i64 x.lease, .int .i64 x.size] 113 ∧ Below w.heap.size w W3) := by
  have hl := hMb.lt
  refine ⟨by rw [seL_succ, hT]; exact hrow, fun g e => ?_, ?_, ?_⟩
  · obtain rfl := Option.some.inj e
    rcases hob with h | h
    · exact hg _ h
    · omega
  · exact (hgr.block M (by simp; omega) (fun e => by have := hg M e.symm; omega)).trans (hMb.alloc o)
  · exact (hB.alloc hB.size o).grown hgr (by have := hB.size; simp; omega) (fun g e => by have := hg g e; omega)

set_option maxRecDepth 100000 in
set_option maxHeartbeats 8000000 in
theorem rkeep_any (x : SeE) (a : Option Addr) (n cap b o : Nat) (S : Nat → SeE) (w : World) (hs : SeIn w a n cap b o S) (hn : n ≤ 200) :
    Calls Try.prog 56 #[.slice a n cap, .int .i64 x.client, .int .i64 x.number, .agg #[.int .i64 x.e, .int .i64 x.rate, .int .i64 x.burst, .int .i64 x.lease, .int .i64 x.size]] w fun e w' => ∃ v, e = .returned (.tuple #[v, .int .i64 (keepE S n x.client x.number)]) ∧ KeepP S n x w w' v ∧ Below w.heap.size w w' := by
  have m1 := hs.le
  have m2 := hs.max
  unfold maxLen at m2
  obtain ⟨N, hN⟩ : ∃ N, N = w.heap.size := ⟨_, rfl⟩
  obtain ⟨W1, hW1⟩ : ∃ W1, W1 = w.alloc (.cells #[.int .i64 x.e, .int .i64 x.rate, .int .i64 x.burst, .int .i64 x.lease, .int .i64 x.size] 73) := ⟨_, rfl⟩
  have hB1 : Below w.heap.size w W1 := by rw [hW1]; exact (Below.refl _ _).alloc (Nat.le_refl _) _
  have hb1 : Blk W1 N #[.int .i64 x.e, .int .i64 x.rate, .int .i64 x.burst, .int .i64 x.lease, .int .i64 x.size] 73 := by rw [hW1, hN]; exact blk_new _ _ _
  have H1 := Lib.hid (rmay_any x.client x.number a n cap b o S W1 (hs.below hB1))
  have H2 := Lib.hid (fun W (h : Below w.heap.size w W) => rlast_any x.client a n cap b o S W (hs.below h))
  obtain ⟨y, hy⟩ : ∃ y, y = ofE S x.client n := ⟨_, rfl⟩
  have hr0 : keepE S n x.client x.number = if mayB S n x.client x.number then (if x.number ≤ y.number then 150 else 0) else 2 := by rw [hy]; rfl
  obtain ⟨C, hC⟩ : ∃ C, C = mayB S n x.client x.number := ⟨_, rfl⟩
  rw [← hC] at H1 hr0
  obtain ⟨R, hR⟩ : ∃ R, R = keepE S n x.client x.number := ⟨_, rfl⟩
  rw [← hR] at hr0 ⊢
  have HR := Lib.hid hr0
  have HRE := Lib.hid hR
  have HC := Lib.hid hC
  have HY := Lib.hid hy
  have HS := Lib.hid hs
  have HB1 := Lib.hid hB1
  have HK1 := Lib.hid hb1
  have HN := Lib.hid hN
  obtain ⟨i0, hi, hz0, hz1, hz2⟩ := info_parts infoSe
  have HI := Lib.hid hi
  have HZ0 := Lib.hid hz0
  have HZ1 := Lib.hid hz1
  have HZ2 := Lib.hid hz2
  clear hs hy hC hB1 hb1 hr0 hR hi hz0 hz1 hz2
  go_enter Try.func56, Try.ntmps56
  go_upto_region 1 with fail
  rw [← hN, ← hW1]
  clear hN hW1
  go_wp2_with fail
  go_at_call 80
  refine Calls.mono H1.out ?_
  rintro e W2 ⟨rfl, hB2⟩
  have HK2 := Lib.hid (HK1.out.step hB2)
  have HB2 := Lib.hid (HB1.out.trans (hB2.mono HB1.out.size))
  clear hB2 HB1 HK1 H1
  cases C
  · have hr : R = 2 := HR.out
    subst hr
    go_wp2_with fail
    exact bodyPost_ret (v := .tuple #[.slice none 0 0, .int .i64 2]) (by simp [results, Try.results56, go_sem]) rfl ⟨_, rfl, keepP_err _ _ HRE.out (by decide), HB2.out⟩
  · have hmay := HC.out.symm
    unfold mayB at hmay
    simp only [Bool.and_eq_true, decide_eq_true_eq] at hmay
    obtain ⟨hck, _, _, hn1⟩ := hmay
    have hlast : lastN S x.client n = y.number := by unfold lastN; rw [hck, HY.out]; rfl
    rw [hlast] at H2
    have HCK := Lib.hid hck
    clear hck hlast
    go_wp2_with fail
    go_at_call 54
    refine Calls.mono (H2.out _ HB2.out) ?_
    rintro e W3 ⟨rfl, hB3⟩
    have HK3 := Lib.hid (HK2.out.step hB3)
    have HB3 := Lib.hid (HB2.out.trans (hB3.mono HB2.out.size))
    clear hB3
    by_cases h1 : x.number ≤ y.number
    · have hr : R = 150 := by rw [HR.out]; simp [h1]
      subst hr
      go_wp2_with fail
      exact bodyPost_ret (v := .tuple #[.slice none 0 0, .int .i64 150]) (by simp [results, Try.results56, go_sem]) rfl ⟨_, rfl, keepP_err _ _ HRE.out (by decide), HB3.out⟩
    · have hr : R = 0 := by rw [HR.out]; simp [h1]
      subst hr
      have hk3 := HK3.out
      have a0 : W3.cell? ⟨N, 0, none⟩ = some (.int .i64 x.e) := cell_at hk3 0
      have a1 : W3.cell? ⟨N, 1, none⟩ = some (.int .i64 x.rate) := cell_at hk3 1
      have a2 : W3.cell? ⟨N, 2, none⟩ = some (.int .i64 x.burst) := cell_at hk3 2
      have a3 : W3.cell? ⟨N, 3, none⟩ = some (.int .i64 x.lease) := cell_at hk3 3
      have a4 : W3.cell? ⟨N, 4, none⟩ = some (.int .i64 x.size) := cell_at hk3 4
      have hl := hk3.lt
      clear hk3
      go_upto_region 7 with fail
      obtain ⟨W4, hW4⟩ : ∃ W4, W4 = W3.alloc (.cells #[.int .i64 x.client, .int .i64 x.number, .int .i64 x.e, .int .i64 x.rate, .int .i64 x.burst, .int .i64 x.lease, .int .i64 x.size] 113) := ⟨_, rfl⟩
      obtain ⟨M, hM⟩ : ∃ M, M = W3.heap.size := ⟨_, rfl⟩
      have hB4 : Below W3.heap.size W3 W4 := by rw [hW4]; exact (Below.refl _ _).alloc (Nat.le_refl _) _
      have hx4 : Blk W4 M #[.int .i64 x.client, .int .i64 x.number, .int .i64 x.e, .int .i64 x.rate, .int .i64 x.burst, .int .i64 x.lease, .int .i64 x.size] 113 := by rw [hW4, hM]; exact blk_new _ _ _
      have HB4 := Lib.hid (HB3.out.trans (hB4.mono HB3.out.size))
      have HX4 := Lib.hid hx4
      have HM : Hid (w.heap.size ≤ M) := Lib.hid (by rw [hM]; exact HB3.out.size)
      rw [← hW4, ← hM]
      clear hW4 hM hB4 hx4 a0 a1 a2 a3 a4 hl
      obtain ⟨K, hK⟩ : ∃ K, K = cutS S x.client n := ⟨_, rfl⟩
      have HK := Lib.hid hK
      have hcs := cut_spec S x.client n
      rw [← hK] at hcs
      have HCS := Lib.hid hcs
      have hKn : K ≤ n := hcs.1
      clear hK hcs
      go_wp2_with fail
      go_loopw [10, 12, 13] (fun v d i wr => ∃ k : Nat, k ≤ n ∧ i = .int .i64 k ∧ d = .bool (decide (K < k)) ∧ RkI S n x w M k v wr) (fun _ _ i _ => n - (intOf i).toNat)
      case atStart => exact ⟨0, Nat.zero_le _, rfl, rfl, none, Row.nil _ _ _, (fun g e => by cases e), HX4.out, HB4.out⟩
      case round =>
        obtain ⟨k, hk, rfl, rfl, ob, hrow, hg, hMb, hB⟩ := hrel
        have HROW := Lib.hid hrow
        have HG := Lib.hid hg
        have HMB := Lib.hid hMb
        have HB := Lib.hid hB
        obtain ⟨va, vc, rfl, v1, v2, _⟩ := hrow.shape
        unfold maxLen at v2
        obtain ⟨T, hT⟩ : ∃ T, T = TK S n x.client x := ⟨_, rfl⟩
        obtain ⟨mk, hmk⟩ : ∃ mk, mk = cI S n x.client k := ⟨_, rfl⟩
        have hmb : mk ≤ k + 1 := by
          rw [hmk]; unfold cI; rw [← HK.out]; split <;> omega
        rw [← hT, ← hmk] at HROW
        rw [← hmk] at v1 ⊢
        have HT := Lib.hid hT
        have HMK := Lib.hid hmk
        clear hrow hg hMb hB hT hmk
        by_cases hlt : k < n
        · have hsr := HS.out.below HB.out
          obtain ⟨e0, e1⟩ := hsr.at_ (by omega)
          subst e0
          obtain ⟨c0, c1, c2, c3, c4, c5, c6⟩ := hsr.cell k hlt
          obtain ⟨y', hy'⟩ : ∃ y', y' = S k := ⟨_, rfl⟩
          rw [← hy'] at c0 c1 c2 c3 c4 c5 c6
          have HY' := Lib.hid hy'
          clear hsr hy'
          rcases Nat.lt_trichotomy k K with hkK | hkK | hkK
          · have hd : decide (K < k) = false := by simp; omega
            have hlow := HCS.out.2.1 k hkK
            rw [← HY'.out] at hlow
            have hnc : (y'.client == x.client) = false := by rw [beq_eq_false_iff_ne]; omega
            have hmkk : mk = k := by rw [HMK.out]; unfold cI; rw [← HK.out, if_pos (by omega)]
            have HTk : Hid (T mk = y') := Lib.hid (by rw [HT.out, hmkk, HY'.out]; unfold TK keepT; rw [← HK.out, if_pos hkK])
            have HCN : Hid (mk + 1 = cI S n x.client (k + 1)) := Lib.hid (by rw [hmkk]; unfold cI; rw [← HK.out, if_pos (by omega)])
            rw [hd]
            clear hd hmkk
            go_wp2_with (at_builtin; refine wpList_append_row _ rfl (.tmp 56) (.tmp 61) 71 rfl 113 i0 _ 7 56 Try.underlying71 HI.out HZ0.out HZ1.out HZ2.out rfl (by decide) _ ob mk (seL T mk) rfl ((HROW).out.alloc _) ⟨(wr).heap.size, 0, none⟩ 1 1 (y').cells rfl (by decide) rfl ?c1 ?c2 ?c3 ?c4 ?_)
            case c1 => exact one_se (wr) (y') _
            case c2 => exact sec_one (y')
            case c3 => unfold maxLen; omega
            case c4 => omega
            intro v3 ob3 W3 hrow3 hg3 hob3
            have hG := RkI.grow (S := S) (n := n) (x := x) HM.out (HMB).out (HB).out (HG).out (by rw [← HT.out]; exact hrow3) (by rw [← HT.out]; exact HTk.out) _ hg3 (by first | exact hob3 | (rcases hob3 with h | h; exact .inl (by rw [h]); exact .inr h))
            rw [← HT.out] at hG
            obtain ⟨va3, vc3, hv3, _, _, h39⟩ := hG.1.shape
            have h49 : va3 = some ⟨ob3, 0, none⟩ := h39
            subst hv3 h49
            have HR3 := Lib.hid hG.1
            have HG3 := Lib.hid hG.2.1
            have HMB3 := Lib.hid hG.2.2.1
            have HB3 := Lib.hid hG.2.2.2
            clear hG hrow3 hg3 hob3 h39
            go_wp2_with fail
            go_roundw
            case rel => exact ⟨k + 1, by omega, by go_num, by simp; omega, some ob3, by rw [← HT.out, ← HCN.out]; exact HR3.out, HG3.out, HMB3.out, HB3.out⟩
            case measure => first | (simp [intOf]; done) | (simp [intOf]; omega)
          · have hd : decide (K < k) = false := by simp; omega
            have hge := HCS.out.2.2 (by omega)
            rw [← hkK, ← HY'.out] at hge
            have hge2 : decide (x.client ≤ y'.client) = true := by simpa using hge
            have hmkk : mk = k := by rw [HMK.out]; unfold cI; rw [← HK.out, if_pos (by omega)]
            have HTk : Hid (T mk = x) := Lib.hid (by rw [HT.out, hmkk]; unfold TK keepT; rw [← HK.out, if_neg (by omega), if_pos hkK])
            have HMKK := Lib.hid hmkk
            have x0 : wr.cell? ⟨M, 0, none⟩ = some (.int .i64 x.client) := cell_at HMB.out 0
            have x1 : wr.cell? ⟨M, 1, none⟩ = some (.int .i64 x.number) := cell_at HMB.out 1
            have x2 : wr.cell? ⟨M, 2, none⟩ = some (.int .i64 x.e) := cell_at HMB.out 2
            have x3 : wr.cell? ⟨M, 3, none⟩ = some (.int .i64 x.rate) := cell_at HMB.out 3
            have x4 : wr.cell? ⟨M, 4, none⟩ = some (.int .i64 x.burst) := cell_at HMB.out 4
            have x5 : wr.cell? ⟨M, 5, none⟩ = some (.int .i64 x.lease) := cell_at HMB.out 5
            have x6 : wr.cell? ⟨M, 6, none⟩ = some (.int .i64 x.size) := cell_at HMB.out 6
            have hMl := HMB.out.lt
            have HKK := Lib.hid hkK
            rw [hd]
            clear hd hmkk hkK
            go_wp2_with (at_builtin; refine wpList_append_row _ rfl (.tmp 45) (.tmp 47) 71 rfl 113 i0 _ 7 56 Try.underlying71 HI.out HZ0.out HZ1.out HZ2.out rfl (by decide) _ ob mk (seL T mk) rfl ((HROW).out.alloc _) ⟨(wr).heap.size, 0, none⟩ 1 1 (x).cells rfl (by decide) rfl ?c1 ?c2 ?c3 ?c4 ?_)
            case c1 => exact one_se (wr) (x) _
            case c2 => exact sec_one (x)
            case c3 => unfold maxLen; omega
            case c4 => omega
            intro v31 ob31 W31 hrow3 hg3 hob3
            have hG := RkI.grow (S := S) (n := n) (x := x) HM.out (HMB).out (HB).out (HG).out (by rw [← HT.out]; exact hrow3) (by rw [← HT.out]; exact HTk.out) _ hg3 (by first | exact hob3 | (rcases hob3 with h | h; exact .inl (by rw [h]); exact .inr h))
            rw [← HT.out] at hG
            obtain ⟨va31, vc31, hv3, _, _, h39⟩ := hG.1.shape
            have h49 : va31 = some ⟨ob31, 0, none⟩ := h39
            subst hv3 h49
            have HR31 := Lib.hid hG.1
            have HG31 := Lib.hid hG.2.1
            have HMB31 := Lib.hid hG.2.2.1
            have HB31 := Lib.hid hG.2.2.2
            clear hG hrow3 hg3 hob3 h39
            have hsr3 := HS.out.below HB31.out
            obtain ⟨d0, d1, d2, d3, d4, d5, d6⟩ := hsr3.cell k hlt
            have e13 := (hsr3.at_ (by omega)).2
            rw [← HY'.out] at d0 d1 d2 d3 d4 d5 d6
            clear hsr3 c0 c1 c2 c3 c4 c5 c6 x0 x1 x2 x3 x4 x5 x6 hMl
            cases hnc : y'.client == x.client
            · have HD0 : Hid (dS S n x.client = 0) := Lib.hid (by unfold dS; rw [← HK.out, if_neg]; rintro ⟨_, h⟩; rw [← HKK.out, ← HY'.out] at h; simp [h] at hnc)
              have HTk2 : Hid (T (mk + 1) = y') := Lib.hid (by rw [HT.out, HMKK.out, HY'.out]; unfold TK keepT; have := HKK.out; rw [← HK.out, if_neg (by omega), if_neg (by omega), HD0.out]; congr 1)
              have HCN : Hid (mk + 1 + 1 = cI S n x.client (k + 1)) := Lib.hid (by rw [HMKK.out]; unfold cI; have := HKK.out; rw [← HK.out, if_neg (by omega), HD0.out]; omega)
              go_wp2_with (at_builtin; refine wpList_append_row _ rfl (.tmp 56) (.tmp 61) 71 rfl 113 i0 _ 7 56 Try.underlying71 HI.out HZ0.out HZ1.out HZ2.out rfl (by decide) _ (some ob31) (mk + 1) (seL T (mk + 1)) rfl ((HR31).out.alloc _) ⟨(W31).heap.size, 0, none⟩ 1 1 (y').cells rfl (by decide) rfl ?c1 ?c2 ?c3 ?c4 ?_)
              case c1 => exact one_se (W31) (y') _
              case c2 => exact sec_one (y')
              case c3 => unfold maxLen; omega
              case c4 => omega
              intro v32 ob32 W32 hrow3 hg3 hob3
              have hG := RkI.grow (S := S) (n := n) (x := x) HM.out (HMB31).out (HB31).out (HG31).out (by rw [← HT.out]; exact hrow3) (by rw [← HT.out]; exact HTk2.out) _ hg3 (by first | exact hob3 | (rcases hob3 with h | h; exact .inl (by rw [h]); exact .inr h))
              rw [← HT.out] at hG
              obtain ⟨va32, vc32, hv3, _, _, h39⟩ := hG.1.shape
              have h49 : va32 = some ⟨ob32, 0, none⟩ := h39
              subst hv3 h49
              have HR32 := Lib.hid hG.1
              have HG32 := Lib.hid hG.2.1
              have HMB32 := Lib.hid hG.2.2.1
              have HB32 := Lib.hid hG.2.2.2
              clear hG hrow3 hg3 hob3 h39
              go_wp2_with fail
              go_roundw
              case rel => exact ⟨k + 1, by omega, by go_num, by have := HKK.out; simp; omega, some ob32, by rw [← HT.out, ← HCN.out]; exact HR32.out, HG32.out, HMB32.out, HB32.out⟩
              case measure => first | (simp [intOf]; done) | (simp [intOf]; omega)
            · have HD1 : Hid (dS S n x.client = 1) := Lib.hid (by unfold dS; rw [← HK.out, if_pos]; exact ⟨by have := HKK.out; omega, by rw [← HKK.out, ← HY'.out]; simpa using hnc⟩)
              have HCN : Hid (mk + 1 = cI S n x.client (k + 1)) := Lib.hid (by rw [HMKK.out]; unfold cI; have := HKK.out; rw [← HK.out, if_neg (by omega), HD1.out]; omega)
              go_wp2_with fail
              go_roundw
              case rel => exact ⟨k + 1, by omega, by go_num, by have := HKK.out; simp; omega, some ob31, by rw [← HT.out, ← HCN.out]; exact HR31.out, HG31.out, HMB31.out, HB31.out⟩
              case measure => first | (simp [intOf]; done) | (simp [intOf]; omega)
          · have hd : decide (K < k) = true := by simp; omega
            have hlow : x.client < y'.client := by
              have h1 := HCS.out.2.2 (by omega)
              have h2 := chkS_lt HCK.out hkK hlt
              rw [← HY'.out] at h2
              omega
            have hnc : (y'.client == x.client) = false := by rw [beq_eq_false_iff_ne]; omega
            have hdl := dS_le S n x.client
            have hmkk : mk = K + 1 + (k - K - dS S n x.client) := by rw [HMK.out]; unfold cI; rw [← HK.out, if_neg (by omega)]
            have HTk : Hid (T mk = y') := Lib.hid (by rw [HT.out, hmkk, HY'.out]; unfold TK keepT; rw [← HK.out, if_neg (by omega), if_neg (by omega)]; congr 1; omega)
            have HCN : Hid (mk + 1 = cI S n x.client (k + 1)) := Lib.hid (by rw [hmkk]; unfold cI; rw [← HK.out, if_neg (by omega)]; omega)
            rw [hd]
            clear hd hmkk hdl
            go_wp2_with (at_builtin; refine wpList_append_row _ rfl (.tmp 56) (.tmp 61) 71 rfl 113 i0 _ 7 56 Try.underlying71 HI.out HZ0.out HZ1.out HZ2.out rfl (by decide) _ ob mk (seL T mk) rfl ((HROW).out.alloc _) ⟨(wr).heap.size, 0, none⟩ 1 1 (y').cells rfl (by decide) rfl ?c1 ?c2 ?c3 ?c4 ?_)
            case c1 => exact one_se (wr) (y') _
            case c2 => exact sec_one (y')
            case c3 => unfold maxLen; omega
            case c4 => omega
            intro v3 ob3 W3 hrow3 hg3 hob3
            have hG := RkI.grow (S := S) (n := n) (x := x) HM.out (HMB).out (HB).out (HG).out (by rw [← HT.out]; exact hrow3) (by rw [← HT.out]; exact HTk.out) _ hg3 (by first | exact hob3 | (rcases hob3 with h | h; exact .inl (by rw [h]); exact .inr h))
            rw [← HT.out] at hG
            obtain ⟨va3, vc3, hv3, _, _, h39⟩ := hG.1.shape
            have h49 : va3 = some ⟨ob3, 0, none⟩ := h39
            subst hv3 h49
            have HR3 := Lib.hid hG.1
            have HG3 := Lib.hid hG.2.1
            have HMB3 := Lib.hid hG.2.2.1
            have HB3 := Lib.hid hG.2.2.2
            clear hG hrow3 hg3 hob3 h39
            go_wp2_with fail
            go_roundw
            case rel => exact ⟨k + 1, by omega, by go_num, by simp; omega, some ob3, by rw [← HT.out, ← HCN.out]; exact HR3.out, HG3.out, HMB3.out, HB3.out⟩
            case measure => first | (simp [intOf]; done) | (simp [intOf]; omega)
        · obtain rfl : n = k := by omega
          by_cases hKn2 : K < n
          · have hd : decide (K < n) = true := by simpa using hKn2
            have HMM : Hid (mk = mK S n x.client) := Lib.hid (by rw [HMK.out]; exact cI_end S n x.client (by rw [← HK.out]; exact hKn2))
            rw [hd]
            clear hd
            go_wp2_with fail
            have hrow9 := HROW.out
            rw [HMM.out, HT.out] at hrow9
            obtain ⟨ob9, rfl⟩ : ∃ g, ob = some g := by
              cases ob with
              | some g => exact ⟨g, rfl⟩
              | none =>
                rcases hrow9.cases with ⟨_, _, e, _⟩ | ⟨_, _, _, e, _⟩
                · unfold mK at e; omega
                · cases e
            have ho9 := HG.out ob9 rfl
            have hm9 := HM.out
            rw [HMM.out]
            exact bodyPost_ret (v := .tuple #[.slice va (mK S n x.client) vc, .int .i64 0]) (by simp [results, Try.results56, go_sem]) rfl ⟨_, rfl, keepP_ok ob9 HRE.out hrow9 (by omega), HB.out⟩
          · have hd : decide (K < n) = false := by simpa using hKn2
            have hKk : K = n := by omega
            have hmkk : mk = n := by rw [HMK.out]; unfold cI; rw [← HK.out, if_pos (by omega)]
            have HTk : Hid (T mk = x) := Lib.hid (by rw [HT.out, hmkk]; unfold TK keepT; rw [← HK.out, if_neg (by omega), if_pos hKk.symm])
            have HMM : Hid (mk + 1 = mK S n x.client) := Lib.hid (by rw [hmkk]; unfold mK; rw [← HK.out]; omega)
            have x0 : wr.cell? ⟨M, 0, none⟩ = some (.int .i64 x.client) := cell_at HMB.out 0
            have x1 : wr.cell? ⟨M, 1, none⟩ = some (.int .i64 x.number) := cell_at HMB.out 1
            have x2 : wr.cell? ⟨M, 2, none⟩ = some (.int .i64 x.e) := cell_at HMB.out 2
            have x3 : wr.cell? ⟨M, 3, none⟩ = some (.int .i64 x.rate) := cell_at HMB.out 3
            have x4 : wr.cell? ⟨M, 4, none⟩ = some (.int .i64 x.burst) := cell_at HMB.out 4
            have x5 : wr.cell? ⟨M, 5, none⟩ = some (.int .i64 x.lease) := cell_at HMB.out 5
            have x6 : wr.cell? ⟨M, 6, none⟩ = some (.int .i64 x.size) := cell_at HMB.out 6
            have hMl := HMB.out.lt
            rw [hd]
            clear hd hmkk hKk
            go_wp2_with (at_builtin; refine wpList_append_row _ rfl (.tmp 65) (.tmp 67) 71 rfl 113 i0 _ 7 56 Try.underlying71 HI.out HZ0.out HZ1.out HZ2.out rfl (by decide) _ ob mk (seL T mk) rfl ((HROW).out.alloc _) ⟨(wr).heap.size, 0, none⟩ 1 1 (x).cells rfl (by decide) rfl ?c1 ?c2 ?c3 ?c4 ?_)
            case c1 => exact one_se (wr) (x) _
            case c2 => exact sec_one (x)
            case c3 => unfold maxLen; omega
            case c4 => omega
            intro v3 ob3 W3 hrow3 hg3 hob3
            have hG := RkI.grow (S := S) (n := n) (x := x) HM.out (HMB).out (HB).out (HG).out (by rw [← HT.out]; exact hrow3) (by rw [← HT.out]; exact HTk.out) _ hg3 (by first | exact hob3 | (rcases hob3 with h | h; exact .inl (by rw [h]); exact .inr h))
            rw [← HT.out] at hG
            obtain ⟨va3, vc3, hv3, _, _, h39⟩ := hG.1.shape
            have h49 : va3 = some ⟨ob3, 0, none⟩ := h39
            subst hv3 h49
            have HR3 := Lib.hid hG.1
            have HG3 := Lib.hid hG.2.1
            have HMB3 := Lib.hid hG.2.2.1
            have HB3 := Lib.hid hG.2.2.2
            clear hG hrow3 hg3 hob3 h39
            go_wp2_with fail
            have hrow9 := HR3.out
            rw [HMM.out, HT.out] at hrow9
            have ho9 := HG3.out ob3 rfl
            have hm9 := HM.out
            rw [HMM.out]
            exact bodyPost_ret (v := .tuple #[.slice (some ⟨ob3, 0, none⟩) (mK S n x.client) vc3, .int .i64 0]) (by simp [results, Try.results56, go_sem]) rfl ⟨_, rfl, keepP_ok ob3 HRE.out hrow9 (by omega), HB3.out⟩
end Go.Proofs.Ytnaoajdbopminaa
