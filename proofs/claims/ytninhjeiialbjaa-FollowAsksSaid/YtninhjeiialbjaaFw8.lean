/-
  follow.Commit.
-/
import Derived.Test.YtninhjeiialbjaaFw7
namespace Go.Proofs.Ytninhjeiialbjaa
open Go.RowKit
set_option linter.unusedSimpArgs false
set_option linter.unusedVariables false

/-- what each member has, one by one; self has all -/
def matV (P : Nat → PgE) (n : Nat) (self last : Int) (k : Nat) : Int := if (k : Int) = self then last else (foundE P k n).match_
def matL (P : Nat → PgE) (n : Nat) (self last : Int) (L : List Nat) : List Int := L.map (matV P n self last)
theorem reach_mem (l : List Int) (h : 0 < l.length) : reachI l ∈ l := by
  have h1 : (fallI l)[l.length / 2]? = some (reachI l) := by
    unfold reachI
    rw [List.getElem?_eq_getElem (by rw [fallI_len]; omega)]; rfl
  have h2 := List.mem_of_getElem? h1
  unfold fallI sortedI at h2
  rw [List.mem_reverse, List.mem_mergeSort] at h2
  exact h2
theorem found_ok (W : World) (a : Option Addr) (n c b o : Nat) (P : Nat → PgE) (h : PgIn W a n c b o P) (node : Int) : -9223372036854775808 ≤ (foundE P node n).match_ ∧ (foundE P node n).match_ ≤ 9223372036854775807 := by
  unfold foundE findN
  rcases findI_cases P node n 0 with ⟨h1, _⟩ | ⟨j, h1, _, h3, _⟩
  · rw [h1]; simp
  · rw [h1, if_neg (by omega), Int.toNat_natCast]
    exact (h.bd j (by omega)).2.1

/-- the errno and what is committed -/
def commitE (rok : Bool) (commit last term : Int) (m : Nat) : Int := if rok = false then 90 else if commit < 0 ∨ last < commit ∨ term < 1 ∨ m = 0 then 2 else 0

set_option maxRecDepth 100000 in
set_option maxHeartbeats 8000000 in
theorem commit_bad (base term : Int) (a : Option Addr) (len cap b o : Nat) (E : Nat → Ent) (set self t commit : Int) (pa : Option Addr) (pn pc : Nat) (w : World) (hs : EntsIn w a len cap b o E) (h0 : 0 ≤ set) (h1 : set ≤ 255) (hk : rowsB base term len E = false) :
    Calls Try.prog 26 #[.agg #[.int .i64 base, .int .i64 term, .slice a len cap], .int .u8 set, .int .i64 self, .int .i64 t, .int .i64 commit, .slice pa pn pc] w fun e w' => e = .returned (.tuple #[.int .i64 0, .int .i64 90]) ∧ Below w.heap.size w w' := by
  have HS := Lib.hid hs
  have CUR := Lib.hid (RBox.mk0 w base term (.slice a len cap))
  have CL := Lib.hid (fun W (h : Below w.heap.size w W) => rowsLast_any base term a len cap b o E W (hs.below h))
  have CC := Lib.hid (fun W (h : Below w.heap.size w W) => check_any base term a len cap b o E W (hs.below h))
  rw [rE_bad hk] at CC
  simp only [hk, Bool.false_eq_true, if_false] at CL
  have CM := Lib.hid (fun W => members_any set h0 h1 W)
  clear hs hk
  go_enter Try.func26, Try.ntmps26
  go_wp2_with fail
  go_at_call 61
  refine (CL.out _ CUR.out.2.2).mono ?_
  rintro e W ⟨rfl, hW⟩
  have C2 := Lib.hid (CUR.out.step hW)
  clear hW
  go_wp2_with fail
  go_at_call 62
  refine (CM.out _).mono ?_
  rintro e W2 ⟨v, ob, rfl, _, _, hW2⟩
  have C3 := Lib.hid (C2.out.step hW2)
  clear hW2
  obtain ⟨⟨f0, f1, f2⟩, f3, _⟩ := id C3.out
  go_wp2_with fail
  go_at_call 60
  refine (CC.out _ C3.out.2.2).mono ?_
  rintro e W3 ⟨rfl, hW3⟩
  have C4 := Lib.hid (C3.out.step hW3)
  clear hW3 f0 f1 f2 f3
  go_wp2_with fail
  go_ret2
  exact ⟨rfl, C4.out.2.2⟩

set_option maxRecDepth 100000 in
set_option maxHeartbeats 8000000 in
theorem commit_arg (base term : Int) (a : Option Addr) (len cap b o : Nat) (E : Nat → Ent) (set self t commit : Int) (pa : Option Addr) (pn pc : Nat) (w : World) (hs : EntsIn w a len cap b o E) (h0 : 0 ≤ set) (h1 : set ≤ 255) (hk : rowsB base term len E = true) (hc : commit < 0 ∨ (0 ≤ commit ∧ base + len < commit) ∨ (0 ≤ commit ∧ commit ≤ base + len ∧ t < 1) ∨ (0 ≤ commit ∧ commit ≤ base + len ∧ 1 ≤ t ∧ (memF set 7).length = 0)) :
    Calls Try.prog 26 #[.agg #[.int .i64 base, .int .i64 term, .slice a len cap], .int .u8 set, .int .i64 self, .int .i64 t, .int .i64 commit, .slice pa pn pc] w fun e w' => e = .returned (.tuple #[.int .i64 0, .int .i64 2]) ∧ Below w.heap.size w w' := by
  have HS := Lib.hid hs
  have CUR := Lib.hid (RBox.mk0 w base term (.slice a len cap))
  have CL := Lib.hid (fun W (h : Below w.heap.size w W) => rowsLast_any base term a len cap b o E W (hs.below h))
  have CC := Lib.hid (fun W (h : Below w.heap.size w W) => check_any base term a len cap b o E W (hs.below h))
  rw [rE_ok hk] at CC
  simp only [hk, if_true] at CL
  have CM := Lib.hid (fun W => members_any set h0 h1 W)
  obtain ⟨m, hm⟩ : ∃ m, m = (memF set 7).length := ⟨_, rfl⟩
  rw [← hm] at hc CM
  obtain ⟨lt, hlt⟩ : ∃ lt, lt = lastT term len E := ⟨_, rfl⟩
  rw [← hlt] at CL
  obtain ⟨la, hla⟩ : ∃ la, la = base + (len : Int) := ⟨_, rfl⟩
  rw [← hla] at CL hc
  clear hs hk hm hlt hla
  rcases hc with hc | ⟨c1, hc⟩ | ⟨c1, c2, hc⟩ | ⟨c1, c2, c3, hc⟩
  all_goals
    go_enter Try.func26, Try.ntmps26
    go_wp2_with fail
    go_at_call 61
    refine (CL.out _ CUR.out.2.2).mono ?_
    rintro e W ⟨rfl, hW⟩
    have C2 := Lib.hid (CUR.out.step hW)
    clear hW
    go_wp2_with fail
    go_at_call 62
    refine (CM.out _).mono ?_
    rintro e W2 ⟨v, ob, rfl, hrow, _, hW2⟩
    obtain ⟨va, vc, rfl, _, _, hva⟩ := hrow.shape
    clear hva
    have C3 := Lib.hid (C2.out.step hW2)
    clear hW2 hrow
    obtain ⟨⟨f0, f1, f2⟩, f3, _⟩ := id C3.out
    go_wp2_with fail
    go_at_call 60
    refine (CC.out _ C3.out.2.2).mono ?_
    rintro e W3 ⟨rfl, hW3⟩
    have C4 := Lib.hid (C3.out.step hW3)
    clear hW3 f0 f1 f2 f3
    go_wp2_with fail
    go_ret2
    exact ⟨rfl, C4.out.2.2⟩

/-- the row of matches, at the k-th member -/
def CmI (Wl wr : World) (B1 : Nat) (L : List Int) (k : Nat) (vm : Value) : Prop :=
  ∃ ob, Row wr vm ob 3 1 k (valsI (L.take k)) ∧ (∀ g, ob = some g → B1 ≤ g) ∧ Below B1 Wl wr

set_option maxRecDepth 100000 in
set_option maxHeartbeats 8000000 in
theorem commit_ok (base term : Int) (a : Option Addr) (len cap b o : Nat) (E : Nat → Ent) (set self t commit : Int) (pa : Option Addr) (pn pc pb po : Nat) (P : Nat → PgE) (w : World) (hs : EntsIn w a len cap b o E) (hp : PgIn w pa pn pc pb po P) (h0 : 0 ≤ set) (h1 : set ≤ 255) (hk : rowsB base term len E = true) (hc : 0 ≤ commit ∧ commit ≤ base + len ∧ 1 ≤ t ∧ (memF set 7).length ≠ 0) :
    Calls Try.prog 26 #[.agg #[.int .i64 base, .int .i64 term, .slice a len cap], .int .u8 set, .int .i64 self, .int .i64 t, .int .i64 commit, .slice pa pn pc] w fun e w' => e = .returned (.tuple #[.int .i64 (max commit (madeI base E t (min (base + len) (reachI (matL P pn self (base + len) (memF set 7))) - base).toNat)), .int .i64 0]) ∧ Below w.heap.size w w' := by
  have HS := Lib.hid hs
  have HP := Lib.hid hp
  have CUR := Lib.hid (RBox.mk0 w base term (.slice a len cap))
  obtain ⟨b0, b1, h4, t0⟩ := rB_head hk
  have CL := Lib.hid (fun W (h : Below w.heap.size w W) => rowsLast_any base term a len cap b o E W (hs.below h))
  have CC := Lib.hid (fun W (h : Below w.heap.size w W) => check_any base term a len cap b o E W (hs.below h))
  rw [rE_ok hk] at CC
  simp only [hk, if_true] at CL
  have CM := Lib.hid (fun W => members_any set h0 h1 W)
  have CF := Lib.hid (fun node W (h : Below w.heap.size w W) => ffind_any node pa pn pc pb po P W (hp.below h))
  have CMD := Lib.hid (fun up W (h : Below w.heap.size w W) hu hu0 => made_any base term t up a len cap b o E W (hs.below h) hk hu hu0)
  have hml := memF_len set 7
  obtain ⟨L, hL⟩ : ∃ L, L = memF set 7 := ⟨_, rfl⟩
  rw [← hL] at hc CM hml ⊢
  obtain ⟨lt, hlt⟩ : ∃ lt, lt = lastT term len E := ⟨_, rfl⟩
  rw [← hlt] at CL
  obtain ⟨la, hla⟩ : ∃ la, la = base + (len : Int) := ⟨_, rfl⟩
  rw [← hla] at CL CMD hc ⊢
  obtain ⟨ML, hML⟩ : ∃ ML, ML = matL P pn self la L := ⟨_, rfl⟩
  rw [← hML]
  have hMLl : ML.length = L.length := by rw [hML]; unfold matL; rw [List.length_map]
  obtain ⟨q, hq⟩ : ∃ q, q = reachI ML := ⟨_, rfl⟩
  rw [← hq]
  have hqb : -9223372036854775808 ≤ q := by
    have h5 := reach_mem ML (by omega)
    rw [← hq, hML] at h5
    obtain ⟨k, _, hk2⟩ := List.mem_map.1 h5
    unfold matV at hk2
    split at hk2
    · omega
    · have := found_ok w pa pn pc pb po P hp k; omega
  have HMLD := Lib.hid hML
  have HMLL := Lib.hid hMLl
  have HQ := Lib.hid hq
  have HLA := Lib.hid hla
  obtain ⟨c1, c2, c3, c4⟩ := hc
  obtain ⟨m, hm⟩ : ∃ m, m = L.length := ⟨_, rfl⟩
  have HM := Lib.hid hm
  rw [← hm] at c4 hml CM
  have cz : (m = 0) = False := eq_false c4
  have cz2 : ((m : Int) == 0) = false := by rw [beq_eq_false_iff_ne]; omega
  obtain ⟨i0, hi, hz0, hz1, hz2⟩ := info_parts fwInt
  have HI := Lib.hid hi
  have HZ0 := Lib.hid hz0
  have HZ1 := Lib.hid hz1
  have HZ2 := Lib.hid hz2
  have hb1 : la ≤ 1099511627776 := by omega
  clear hi hz0 hz1 hz2 hs hp hk hL hlt hla hML hMLl hq hm
  go_enter Try.func26, Try.ntmps26
  go_wp2_with fail
  go_at_call 61
  refine (CL.out _ CUR.out.2.2).mono ?_
  rintro e W ⟨rfl, hW⟩
  have C2 := Lib.hid (CUR.out.step hW)
  clear hW
  go_wp2_with fail
  go_at_call 62
  refine (CM.out _).mono ?_
  rintro e W2 ⟨v, ob, rfl, hrow, _, hW2⟩
  obtain ⟨va, vc, rfl, hv1, hv2, hva⟩ := hrow.shape
  unfold maxLen at hv2
  have HVA := Lib.hid hva
  have HNR := Lib.hid hrow
  have C3 := Lib.hid (C2.out.step hW2)
  clear hW2 hrow hva
  obtain ⟨⟨f0, f1, f2⟩, f3, _⟩ := id C3.out
  go_wp2_with fail
  go_at_call 60
  refine (CC.out _ C3.out.2.2).mono ?_
  rintro e W3 ⟨rfl, hW3⟩
  have C4 := Lib.hid (C3.out.step hW3)
  have HNR3 := Lib.hid (HNR.out.congr (w' := W3) fun g hg => hW3.block g (by subst hg; exact HNR.out.lt))
  clear hW3 f0 f1 f2 f3
  obtain ⟨B1, hB1⟩ : ∃ B1, B1 = W3.heap.size := ⟨_, rfl⟩
  have HB1 := Lib.hid hB1
  clear hB1
  go_wp2_with fail
  go_loopw [17, 52] (fun vm i wr => ∃ k : Nat, k ≤ m ∧ i = .int .i64 k ∧ CmI W3 wr B1 ML k vm) (fun _ i _ => m - (intOf i).toNat)
  case atStart => exact ⟨0, Nat.zero_le _, rfl, none, Row.nil _ _ _, (fun _ h => by cases h), by rw [HB1.out]; exact Below.refl _ _⟩
  case round =>
    obtain ⟨k, hk, rfl, om, hrm, hgm, hBm⟩ := hrel
    have HRM := Lib.hid hrm
    have HGM := Lib.hid hgm
    have HBM := Lib.hid hBm
    clear hrm hgm hBm
    have C5 : Hid (RBox w base term (.slice a len cap) wr) := Lib.hid (C4.out.step (by rw [← HB1.out]; exact HBM.out))
    by_cases hlt : k < m
    · have hNk := HNR3.out.congr (w' := wr) fun g hg => HBM.out.block g (by rw [HB1.out]; subst hg; exact HNR3.out.lt)
      obtain ⟨nd, hnd⟩ : ∃ nd, L[k]? = some nd := ⟨_, List.getElem?_eq_getElem (by rw [← HM.out]; exact hlt)⟩
      obtain ⟨gn, hgn, hcn, _⟩ := hNk.cell k (by omega)
      rw [intsV, List.getElem?_map, hnd] at hcn
      have hcn' : wr.cell? ⟨gn, k, none⟩ = some (.int .i64 ((nd : Nat) : Int)) := hcn
      have hva := HVA.out
      rw [hgn] at hva
      obtain rfl : va = some ⟨gn, 0, none⟩ := hva
      have hgl : gn < wr.heap.size := by rw [hgn] at hNk; exact hNk.lt
      have hMk : ML.take (k + 1) = ML.take k ++ [matV P pn self la nd] := by
        rw [List.take_add_one]
        congr 1
        rw [HMLD.out]
        unfold matL
        rw [List.getElem?_map, hnd]
        rfl
      have HMK := Lib.hid hMk
      have HCF := Lib.hid (CF.out nd wr C5.out.2.2)
      obtain ⟨mv, hmv⟩ : ∃ mv, mv = matV P pn self la nd := ⟨_, rfl⟩
      rw [← hmv] at HMK
      obtain ⟨fe, hfe⟩ : ∃ fe, fe = foundE P nd pn := ⟨_, rfl⟩
      obtain ⟨fb, hfb⟩ : ∃ fb, fb = foundB P nd pn := ⟨_, rfl⟩
      rw [← hfe, ← hfb] at HCF
      unfold matV at hmv
      rw [← hfe] at hmv
      obtain ⟨fn, fm, fx⟩ := fe
      simp only at HCF hmv
      have HMV := Lib.hid hmv
      clear hNk hgn hcn hmv hfe hfb hMk
      go_wp2_with fail
      go_at_call 17
      refine HCF.out.mono ?_
      rintro e W4 ⟨rfl, hW4⟩
      have H4 := Lib.hid hW4
      clear hW4
      by_cases hse : (nd : Int) = self
      · have d1 : (((nd : Nat) : Int) == self) = true := by simpa using hse
        have hMK2 := HMK.out
        rw [show mv = la by rw [HMV.out, if_pos hse]] at hMK2
        have HMK2 := Lib.hid hMK2
        clear hMK2
        have HRM4 := Lib.hid (HRM.out.congr (w' := W4) fun g hg => H4.out.block g (by subst hg; exact HRM.out.lt))
        go_wp2_with (at_builtin; refine wpList_append_row _ rfl (.tmp 67) (.tmp 70) 52 rfl 3 i0 _ 1 8 Try.underlying52 HI.out HZ0.out HZ1.out HZ2.out rfl (by decide) _ om k (valsI (ML.take k)) rfl ((HRM4.out.alloc _).alloc _) ⟨W4.heap.size + 1, 0, none⟩ 1 1 [.int .i64 la] rfl (by decide) rfl ?c1 ?c2 ?c3 ?c4 ?_)
        case c1 =>
          intro j u h
          have h9 := fw_one (W4.alloc (.cells #[.int .i64 fn, .int .i64 la, .int .i64 fx] 26)) (.int .i64 la) 3 j u h
          rw [World.size_alloc] at h9
          exact h9
        case c2 => intro u hu; exact (List.all_eq_true (p := fun u : Value => u.oneCell')).1 rfl u hu
        case c3 => unfold maxLen; omega
        case c4 => omega
        intro v5 ob5 W5 hrow5 hg5 hob5
        have HR5 := Lib.hid hrow5
        have HG5 := Lib.hid hg5
        have HO5 := Lib.hid hob5
        clear hrow5 hg5 hob5
        go_wp2_with fail
        go_roundw
        case rel =>
          have hs4 := H4.out.size
          have hsm := HBM.out.size
          have hb1 := HB1.out
          have hBa : Below B1 W3 ((W4.alloc (.cells #[.int .i64 fn, .int .i64 la, .int .i64 fx] 26)).alloc (.cells #[.int .i64 la] 3)) := ((HBM.out.trans (H4.out.mono (by omega))).alloc (by omega) _).alloc (by simp; omega) _
          refine ⟨k + 1, by omega, by go_num, some ob5, ?_, ?_, hBa.grown HG5.out (by simp; omega) (fun g e => HGM.out g e)⟩
          · rw [HMK2.out, valsI, List.map_append]
            exact HR5.out
          · intro g e
            obtain rfl := Option.some.inj e
            rcases HO5.out with h | h
            · exact HGM.out _ h
            · first | omega | (simp at h; omega)
        case measure => first | (simp [intOf]; done) | (simp [intOf]; omega)
      · have d1 : (((nd : Nat) : Int) == self) = false := by simpa using hse
        have hMK2 := HMK.out
        rw [show mv = fm by rw [HMV.out, if_neg hse]] at hMK2
        have HMK2 := Lib.hid hMK2
        clear hMK2
        have HRM4 := Lib.hid (HRM.out.congr (w' := W4) fun g hg => H4.out.block g (by subst hg; exact HRM.out.lt))
        go_wp2_with (at_builtin; refine wpList_append_row _ rfl (.tmp 67) (.tmp 70) 52 rfl 3 i0 _ 1 8 Try.underlying52 HI.out HZ0.out HZ1.out HZ2.out rfl (by decide) _ om k (valsI (ML.take k)) rfl ((HRM4.out.alloc _).alloc _) ⟨W4.heap.size + 1, 0, none⟩ 1 1 [.int .i64 fm] rfl (by decide) rfl ?c1 ?c2 ?c3 ?c4 ?_)
        case c1 =>
          intro j u h
          have h9 := fw_one (W4.alloc (.cells #[.int .i64 fn, .int .i64 fm, .int .i64 fx] 26)) (.int .i64 fm) 3 j u h
          rw [World.size_alloc] at h9
          exact h9
        case c2 => intro u hu; exact (List.all_eq_true (p := fun u : Value => u.oneCell')).1 rfl u hu
        case c3 => unfold maxLen; omega
        case c4 => omega
        intro v5 ob5 W5 hrow5 hg5 hob5
        have HR5 := Lib.hid hrow5
        have HG5 := Lib.hid hg5
        have HO5 := Lib.hid hob5
        clear hrow5 hg5 hob5
        go_wp2_with fail
        go_roundw
        case rel =>
          have hs4 := H4.out.size
          have hsm := HBM.out.size
          have hb1 := HB1.out
          have hBa : Below B1 W3 ((W4.alloc (.cells #[.int .i64 fn, .int .i64 fm, .int .i64 fx] 26)).alloc (.cells #[.int .i64 fm] 3)) := ((HBM.out.trans (H4.out.mono (by omega))).alloc (by omega) _).alloc (by simp; omega) _
          refine ⟨k + 1, by omega, by go_num, some ob5, ?_, ?_, hBa.grown HG5.out (by simp; omega) (fun g e => HGM.out g e)⟩
          · rw [HMK2.out, valsI, List.map_append]
            exact HR5.out
          · intro g e
            obtain rfl := Option.some.inj e
            rcases HO5.out with h | h
            · exact HGM.out _ h
            · first | omega | (simp at h; omega)
        case measure => first | (simp [intOf]; done) | (simp [intOf]; omega)
    · obtain rfl : k = m := by omega
      have hrm := HRM.out
      rw [List.take_of_length_le (by rw [HMLL.out, ← HM.out]; omega), HM.out, ← HMLL.out] at hrm
      obtain ⟨g9, p9, rfl, rfl, k1, k2, k3⟩ := row_some hrm (by rw [HMLL.out, ← HM.out]; omega)
      have HRR := Lib.hid (fun W (h : Below wr.heap.size wr W) => reached_any _ _ ML W (hrm.congr (w' := W) fun g hg => h.block g (by obtain rfl := Option.some.inj hg; exact k3)) (by rw [HMLL.out, ← HM.out]; omega) (by rw [HMLL.out, ← HM.out]; omega))
      rw [← HQ.out] at HRR
      have HQ0 : Hid (RBox w base term (.slice a len cap) wr.drew) := Lib.hid (C5.out.step ((Below.refl _ _).drew : Below wr.heap.size wr wr.drew))
      have HD0 : Hid (Below wr.heap.size wr wr.drew) := Lib.hid ((Below.refl _ _).drew)
      clear hrm HRM HGM HBM CUR C2 C3 C4 C5 CL CC CM CF HNR HNR3 HVA HI HZ0 HZ1 HZ2 HMLD HMLL HQ HM HP HS cz cz2 hml c4 hv1 k1 k2 k3 hlt hk h0 h1 h4 t0 b0 b1
      go_upto_region 16 with fail
      refine wp_region_held_drew (S := fun X => X.cell? ⟨w.heap.size, 0, none⟩ = some (.int .i64 base) ∧ X.cell? ⟨w.heap.size, 1, none⟩ = some (.int .i64 term) ∧ X.cell? ⟨w.heap.size, 2, none⟩ = some (.slice a len cap)) (by kernel_rfl) ⟨HQ0.out.1.1, HQ0.out.1.2.1, HQ0.out.1.2.2⟩ (fun hHeld => ?_)
      ((refine wpAnyH_take (i := 0) (v := ?_) (by (simp only [List.getElem?_toArray, List.getElem?_cons_succ, List.getElem?_cons_zero]); rfl) (by kernel_rfl) (by kernel_rfl) (by kernel_rfl) (by exact fun _ _ _ h => h) (Or.inl ⟨by rfl, ?_⟩) (by assumption) ?_); rotate_left; focus (intro wS hSw; (try dsimp only at hSw); go_simp; first | done | with_reducible rfl); try simp only [Act.put, List.setIfInBounds_toArray, List.set_cons_zero, List.set_cons_succ])
      ((refine wpAnyH_take (i := 1) (v := ?_) (by (simp only [List.getElem?_toArray, List.getElem?_cons_succ, List.getElem?_cons_zero]); rfl) (by kernel_rfl) (by kernel_rfl) (by kernel_rfl) (by exact fun _ _ _ h => h) (Or.inl ⟨by rfl, ?_⟩) (by assumption) ?_); rotate_left; focus (intro wS hSw; (try dsimp only at hSw); go_simp; first | done | with_reducible rfl); try simp only [Act.put, List.setIfInBounds_toArray, List.set_cons_zero, List.set_cons_succ])
      ((refine wpAnyH_take (i := 2) (v := ?_) (by (simp only [List.getElem?_toArray, List.getElem?_cons_succ, List.getElem?_cons_zero]); rfl) (by kernel_rfl) (by kernel_rfl) (by kernel_rfl) (by exact fun _ _ _ h => h) (Or.inl ⟨by rfl, ?_⟩) (by assumption) ?_); rotate_left; focus (intro wS hSw; (try dsimp only at hSw); go_simp; first | done | with_reducible rfl); try simp only [Act.put, List.setIfInBounds_toArray, List.set_cons_zero, List.set_cons_succ])
      ((refine wpAnyH_take (i := 3) (v := ?_) (by (simp only [List.getElem?_toArray, List.getElem?_cons_succ, List.getElem?_cons_zero]); rfl) (by kernel_rfl) (by kernel_rfl) (by kernel_rfl) (by exact fun _ _ _ h => h) (Or.inl ⟨by rfl, ?_⟩) (by assumption) ?_); rotate_left; focus (intro wS hSw; (try dsimp only at hSw); go_simp; first | done | with_reducible rfl); try simp only [Act.put, List.setIfInBounds_toArray, List.set_cons_zero, List.set_cons_succ])
      ((refine wpAnyH_take (i := 4) (v := ?_) (by (simp only [List.getElem?_toArray, List.getElem?_cons_succ, List.getElem?_cons_zero]); rfl) (by kernel_rfl) (by kernel_rfl) (by kernel_rfl) (by exact fun _ _ _ h => h) (Or.inl ⟨by rfl, ?_⟩) (by assumption) ?_); rotate_left; focus (intro wS hSw; (try dsimp only at hSw); go_simp; first | done | with_reducible rfl); try simp only [Act.put, List.setIfInBounds_toArray, List.set_cons_zero, List.set_cons_succ])
      ((refine wpAnyH_ready (rs := [5]) (by kernel_rfl) (by simp) ?_); (refine AllReadyH.cons (by (simp only [List.getElem?_toArray, List.getElem?_cons_succ, List.getElem?_cons_zero]); rfl) (fun K hK => ?_) AllReadyH.nil); go_simp; refine Calls.mono (HRR.out _ HD0.out) ?_)
      rintro e X1 ⟨rfl, hX1⟩
      have HQ1 := Lib.hid (HQ0.out.step hX1)
      clear hX1
      (go_wp2_with fail; (refine hK.out _ _ ⟨HQ1.out.1.1, HQ1.out.1.2.1, HQ1.out.1.2.2⟩ (fun hHeld => ?_)); clear hK K; try simp only [Act.put, List.setIfInBounds_toArray, List.set_cons_zero, List.set_cons_succ])
      ((refine wpAnyH_take (i := 6) (v := ?_) (by (simp only [List.getElem?_toArray, List.getElem?_cons_succ, List.getElem?_cons_zero]); rfl) (by kernel_rfl) (by kernel_rfl) (by kernel_rfl) (by exact fun _ _ _ h => h) (Or.inl ⟨by rfl, ?_⟩) (by assumption) ?_); rotate_left; focus (intro wS hSw; (try dsimp only at hSw); go_simp; first | done | with_reducible rfl); try simp only [Act.put, List.setIfInBounds_toArray, List.set_cons_zero, List.set_cons_succ])
      ((refine wpAnyH_ready (rs := [7]) (by kernel_rfl) (by simp) ?_); (refine AllReadyH.cons (by (simp only [List.getElem?_toArray, List.getElem?_cons_succ, List.getElem?_cons_zero]); rfl) (fun K hK => ?_) AllReadyH.nil); go_simp; refine Calls.mono (CMD.out (min la q) _ HQ1.out.2.2 (by omega) (by omega)) ?_)
      rintro e X2 ⟨rfl, hX2⟩
      have HQ2 := Lib.hid (HQ1.out.step hX2)
      clear hX2
      (go_wp2_with fail; (refine hK.out _ _ ⟨HQ2.out.1.1, HQ2.out.1.2.1, HQ2.out.1.2.2⟩ (fun hHeld => ?_)); clear hK K; try simp only [Act.put, List.setIfInBounds_toArray, List.set_cons_zero, List.set_cons_succ])
      ((refine wpAnyH_take (i := 8) (v := ?_) (by (simp only [List.getElem?_toArray, List.getElem?_cons_succ, List.getElem?_cons_zero]); rfl) (by kernel_rfl) (by kernel_rfl) (by kernel_rfl) (by exact fun _ _ _ h => h) (Or.inl ⟨by rfl, ?_⟩) (by assumption) ?_); rotate_left; focus (intro wS hSw; (try dsimp only at hSw); go_simp; first | done | with_reducible rfl); try simp only [Act.put, List.setIfInBounds_toArray, List.set_cons_zero, List.set_cons_succ])
      ((refine wpAnyH_take (i := 9) (v := ?_) (by (simp only [List.getElem?_toArray, List.getElem?_cons_succ, List.getElem?_cons_zero]); rfl) (by kernel_rfl) (by kernel_rfl) (by kernel_rfl) (by exact fun _ _ _ h => h) (Or.inl ⟨by rfl, ?_⟩) (by assumption) ?_); rotate_left; focus (intro wS hSw; (try dsimp only at hSw); go_simp; first | done | with_reducible rfl); try simp only [Act.put, List.setIfInBounds_toArray, List.set_cons_zero, List.set_cons_succ])
      ((refine wpAnyH_take (i := 10) (v := ?_) (by (simp only [List.getElem?_toArray, List.getElem?_cons_succ, List.getElem?_cons_zero]); rfl) (by kernel_rfl) (by kernel_rfl) (by kernel_rfl) (by exact fun _ _ _ h => h) (Or.inl ⟨by rfl, ?_⟩) (by assumption) ?_); rotate_left; focus (intro wS hSw; (try dsimp only at hSw); go_simp; first | done | with_reducible rfl); try simp only [Act.put, List.setIfInBounds_toArray, List.set_cons_zero, List.set_cons_succ])
      refine wpAnyH_done (by kernel_rfl) ?_ _
      go_wp2_with fail
      go_ret2
      exact ⟨rfl, HQ2.out.2.2⟩
end Go.Proofs.Ytninhjeiialbjaa
