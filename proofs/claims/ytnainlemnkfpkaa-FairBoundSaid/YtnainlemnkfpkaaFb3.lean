/-
  A pick: the document.
-/
import Derived.Test.YtnainlemnkfpkaaFb2
namespace Go.Proofs.Ytnainlemnkfpkaa
open Go.RowKit
set_option linter.unusedSimpArgs false
set_option linter.unusedVariables false

def sB (m : Nat → Int) : Nat → Bool
  | 0 => false
  | k + 1 => sB m k || rdy m k
theorem sB_iff (m : Nat → Int) : ∀ n : Nat, sB m n = true ↔ ∃ k, k < n ∧ 0 < m k
  | 0 => by simp [sB]
  | n + 1 => by
    simp only [sB, Bool.or_eq_true, sB_iff m n, rdy, decide_eq_true_eq]
    constructor
    · rintro (⟨k, h1, h2⟩ | h)
      · exact ⟨k, by omega, h2⟩
      · exact ⟨n, by omega, h⟩
    · rintro ⟨k, h1, h2⟩
      by_cases hk : k = n
      · subst hk; exact .inr h2
      · exact .inl ⟨k, by omega, h2⟩
theorem RfAt.sv1 {W W' : World} {M ft c2 : Nat} {x : RL} {wt : Nat → Int} {al : Int} {s : FS} (h : RfAt W M x ft c2 wt al s) {k : Nat} (hk : k < x.n) (hW : W' = W.setCell ⟨x.fv, k, none⟩ (.bool true)) : RfAt W' M x ft c2 wt al ⟨s.V, s.T, s.z, upf s.sv k true⟩ ∧ Fr [x.fv] W W' := by
  obtain ⟨_, n2, n3, _, n5, _, n7, n8, n9⟩ := h.ne
  obtain ⟨pv, qv⟩ := h.sv.put hk true hW
  exact ⟨⟨(qv.block x.g h.blk.lt (by simpa using n3)).trans h.blk, h.w.fr qv (by simpa using n5), h.z.fr qv (by simpa using n7), pv, h.cp, h.tg.congr fun q e => by obtain rfl := Option.some.inj e; exact qv.block _ h.tg.lt (by simpa using fun e => n9 e.symm), h.ge, h.wz⟩, qv⟩
structure RkP (M : Nat) (x : RL) (ft : Nat) (wt : Nat → Int) (al : Int) (s' : FS) (w w' : World) : Prop where
  ex : ∃ ft' c', RfAt w' M x ft' c' wt al s' ∧ Fr [x.g, x.fz, x.fv, ft] w w' ∧ (ft' = ft ∨ w.heap.size ≤ ft')
set_option maxRecDepth 100000 in
set_option maxHeartbeats 40000000 in
theorem rfpick_good (M : Nat) (x : RL) (ft c2 : Nat) (wt : Nat → Int) (al : Int) (s : FS) (a : Option Addr) (cap hb ho : Nat) (E : Nat → HdE) (w : World) (h : RfAt w M x ft c2 wt al s) (hE : ∀ W', Fr [x.g, x.fz, x.fv, ft] w W' → HdIn W' a x.n cap hb ho E) (hm : okHd (hsz E) x.n) (hi : Inv x.n s) (hw : WtOk x.n wt al) (hn0 : 0 < x.n) :
    Calls Try.prog 12 #[.pointer (some ⟨x.g, 0, none⟩), .slice a x.n cap] w fun e w' => e = .returned (.tuple #[.int .i64 (kI (pkK x.n wt al (hsz E) s)), .bool (pkK x.n wt al (hsz E) s).isSome]) ∧ RkP M x ft wt al (pkS x.n wt al (hsz E) s) w w' := by
  have TD := Lib.hid (told_ok M x ft c2 wt al s a cap hb ho E w h hE hm hi hw hn0)
  obtain ⟨g, fw, fz, fv, n, cw, cz, cv⟩ := x
  simp only at hE hm hi hw hn0 TD ⊢
  obtain ⟨ea, _⟩ := (hE w (Fr.refl _ _)).at_ hn0
  subst ea
  have HE := Lib.hid hE
  have HM := Lib.hid hm
  have HI := Lib.hid hi
  have HW := Lib.hid hw
  have HN8 := Lib.hid hi.n8
  have H0 := Lib.hid hn0
  have HX0 := Lib.hid h
  have HC := Lib.hid (fun W hf k hk => ((hE W hf).cell k hk).1)
  have e0 : w.cell? ⟨g, 0, none⟩ = some (.slice (some ⟨fw, 0, none⟩) n cw) := cell_at h.blk 0
  have dn : ((n : Int) != (n : Int)) = false := by simp
  clear h hE hm hi hw hn0
  go_enter Try.func12, Try.ntmps12
  go_wp2_with fail
  clear e0
  go_loopw [6, 7] (fun vs i wr => ∃ k, k ≤ n ∧ i = .int .i64 k ∧ vs = .bool (sB (hsz E) k) ∧ wr = w) (fun _ i _ => n - (intOf i).toNat)
  case atStart => exact ⟨0, Nat.zero_le _, rfl, rfl, rfl⟩
  case round =>
    obtain ⟨k, hk, rfl, rfl, rfl⟩ := hrel
    by_cases hlt : k < n
    · have c0 := HC.out wr (Fr.refl _ _) k hlt
      obtain ⟨Z, hZ⟩ : ∃ z, z = hsz E k := ⟨_, rfl⟩
      have c0' : wr.cell? ⟨hb, ho + k * 2, none⟩ = some (.int .i64 Z) := by rw [c0, hZ]; rfl
      have hz2 : 0 ≤ Z ∧ Z ≤ 1500 := by rw [hZ]; exact HM.out k hlt
      obtain ⟨S, hS⟩ : ∃ S, S = sB (hsz E) k := ⟨_, rfl⟩
      have HSS : Hid (sB (hsz E) (k + 1) = (S || decide (0 < Z))) := Lib.hid (by rw [hS, hZ]; rfl)
      rw [← hS]
      have ww5 : IntKind.i64.wrap ((k : Int) + 1) = (k : Int) + 1 := IntWalk.i64_in _ (by have := HN8.out; omega)
      have b9 : ((k : Int) < (n : Int)) = True := eq_true (by omega)
      have bk1 : (k < n) = True := eq_true hlt
      have d1 : decide (Z < 0) = false := decide_eq_false (by omega)
      have d2 : decide (1500 < Z) = false := decide_eq_false (by omega)
      have HLT := Lib.hid hlt
      clear c0 hZ hz2 hS hlt
      cases S
      · cases hd : decide (0 < Z)
        · rw [hd] at HSS
          have d3 := hd
          clear hd
          go_wp2_with fail
          go_roundw
          case rel => exact ⟨k + 1, by have := HLT.out; omega, by go_num, by rw [HSS.out]; rfl, by first | rfl | trivial⟩
          case measure => (have h8 := HLT.out; first | (simp [intOf]; done) | (simp [intOf]; omega))
        · rw [hd] at HSS
          have d3 := hd
          clear hd
          go_wp2_with fail
          go_roundw
          case rel => exact ⟨k + 1, by have := HLT.out; omega, by go_num, by rw [HSS.out]; rfl, by first | rfl | trivial⟩
          case measure => (have h8 := HLT.out; first | (simp [intOf]; done) | (simp [intOf]; omega))
      · go_wp2_with fail
        go_roundw
        case rel => exact ⟨k + 1, by have := HLT.out; omega, by go_num, by rw [HSS.out]; rfl, by first | rfl | trivial⟩
        case measure => (have h8 := HLT.out; first | (simp [intOf]; done) | (simp [intOf]; omega))
    obtain rfl : k = n := by omega
    obtain ⟨w, hwe⟩ : ∃ w, w = wr := ⟨_, rfl⟩
    subst hwe
    obtain ⟨SB, hSB⟩ : ∃ S, S = sB (hsz E) k := ⟨_, rfl⟩
    rw [← hSB]
    have HSB := Lib.hid hSB
    clear hSB
    go_wp2_with fail
    go_at_call 32
    go_fit (TD.out)
    rintro e W2 ⟨rfl, ⟨ft2, c3, hx2, hf2, ht2⟩⟩
    obtain ⟨s1, hs1⟩ : ∃ s1, s1 = hearN wt al (hsz E) k s := ⟨_, rfl⟩
    have hi1 : Inv k s1 := by rw [hs1]; exact inv_hearN HW.out HM.out k HI.out (Nat.le_refl _)
    have HK1 : Hid (pkK k wt al (hsz E) s = (pickS k (hsz E) s1).map (·.1)) := Lib.hid (by rw [hs1]; rfl)
    have HS1 : Hid (pkS k wt al (hsz E) s = match pickS k (hsz E) s1 with | none => s1 | some p => p.2) := Lib.hid (by rw [hs1]; rfl)
    rw [← hs1] at hx2
    have HX2 := Lib.hid hx2
    have HF2 := Lib.hid hf2
    have HT2 := Lib.hid ht2
    have HI1 := Lib.hid hi1
    clear hx2 hf2 ht2 hi1 hs1 TD
    cases SB
    · have hnone : firstS (rdy (hsz E)) (ltS s1.T) k = none := by
        cases hp : firstS (rdy (hsz E)) (ltS s1.T) k with
        | none => rfl
        | some j =>
          obtain ⟨j1, j2⟩ := firstS_some hp
          have := (sB_iff (hsz E) k).2 ⟨j, j1, by unfold rdy at j2; simpa using j2⟩
          rw [← HSB.out] at this
          cases this
      have HRES : Hid (kI (pkK k wt al (hsz E) s) = 0 ∧ (pkK k wt al (hsz E) s).isSome = false ∧ pkS k wt al (hsz E) s = s1) := Lib.hid (by
        have hp : pickS k (hsz E) s1 = none := by unfold pickS; rw [hnone]
        rw [HK1.out, HS1.out, hp]
        exact ⟨rfl, rfl, rfl⟩)
      clear hnone
      go_wp2_with fail
      try rw [Exit.noGoto_ret]
      exact bodyPost_ret (v := .tuple #[.int .i64 0, .bool false]) (by simp [results, Try.results12, go_sem]) rfl ⟨by rw [HRES.out.1, HRES.out.2.1], ⟨_, _, by rw [HRES.out.2.2]; exact HX2.out, HF2.out, HT2.out⟩⟩
    obtain ⟨j0, hj0, hjz⟩ := (sB_iff (hsz E) k).1 HSB.out.symm
    obtain ⟨k0, hp1⟩ := firstS_ex (lt := ltS s1.T) hj0 (show rdy (hsz E) j0 = true by simp [rdy, hjz])
    obtain ⟨p, h2⟩ := second_some (V := s1.V) hp1
    have hk0 := (firstS_some hp1).1
    obtain ⟨hpk, hkt⟩ := firstS_some h2
    obtain ⟨now, hnow⟩ : ∃ now, now = max s1.V (s1.T k0).s := ⟨_, rfl⟩
    have hnb := now_bd HI1.out hk0
    rw [← hnow] at hnb
    obtain ⟨Z, hZ⟩ : ∃ Z, Z = hsz E p := ⟨_, rfl⟩
    have hz2 : 1 ≤ Z ∧ Z ≤ 1500 := by
      have h3 := HM.out p hpk
      unfold tkN rdy at hkt
      simp at hkt
      omega
    obtain ⟨hv1, hsv, hv2⟩ := mid_ok HI1.out hnb hz2
    have HRES : Hid (kI (pkK k wt al (hsz E) s) = (p : Int) ∧ (pkK k wt al (hsz E) s).isSome = true ∧ pkS k wt al (hsz E) s = takeS k p now Z s1) := Lib.hid (by
      have hp : pickS k (hsz E) s1 = some (p, takeS k p now Z s1) := by unfold pickS; rw [hp1]; simp only; rw [h2, hZ, hnow]
      rw [HK1.out, HS1.out, hp]
      exact ⟨rfl, rfl, rfl⟩)
    have VP := Lib.hid (fun ra rc rb ro W hx hy => rvpick_ok s1.V ft2 k c3 s1.T ra rc rb ro (rdy (hsz E)) k0 p W hx HN8.out H0.out hy HI1.out.vok hp1 h2)
    rw [← hnow] at VP
    have HSV := Lib.hid hsv
    have HV2 := Lib.hid hv2
    have HPK := Lib.hid hpk
    have HZ2 := Lib.hid hz2
    have HZZ := Lib.hid hZ
    clear hp1 h2 hk0 hkt hnow hnb hZ hz2 hv1 hsv hv2 hpk hj0 hjz
    go_wp2_with fail
    go_loopw [8, 9] (fun v i wq => ∃ (j : Nat) (ob : Option Nat), j ≤ k ∧ i = .int .i64 j ∧ Row wq v ob 4 1 j (boL (rdy (hsz E)) j) ∧ (∀ q, ob = some q → W2.heap.size ≤ q) ∧ Below W2.heap.size W2 wq) (fun _ i _ => k - (intOf i).toNat)
    case atStart => exact ⟨0, none, Nat.zero_le _, rfl, Row.nil _ _ _, (fun q e => by cases e), Below.refl _ _⟩
    case round =>
      obtain ⟨j, ob, hj, rfl, hrow, hob, hB⟩ := hrel
      have HBJ := Lib.hid hB
      by_cases hlj : j < k
      · have c0 := HC.out wr (HF2.out.trans (Fr.of_below hB) (by simp)) j hlj
        obtain ⟨ZJ, hZJ⟩ : ∃ z, z = hsz E j := ⟨_, rfl⟩
        have c0' : wr.cell? ⟨hb, ho + j * 2, none⟩ = some (.int .i64 ZJ) := by rw [c0, hZJ]; rfl
        have hrd : rdy (hsz E) j = decide (0 < ZJ) := by unfold rdy; rw [hZJ]
        obtain ⟨ar, cr, rfl, _, _, _⟩ := hrow.shape
        have hBx : Below wr.heap.size wr (wr.alloc (.cells #[.bool (decide (0 < ZJ))] 4)) := alloc_b _ _
        obtain ⟨v8, o8, W8, hrun8, hrow8, hg8, hn8, hlo8, hm8⟩ := bo_grow (M := W2.heap.size) (ty := 41) (R := rdy (hsz E)) (W := wr.alloc (.cells #[.bool (decide (0 < ZJ))] 4)) (n := j) (hrow.congr fun q e => by subst e; exact hBx.block q hrow.lt) hob (by rw [hrd]; exact blk_new wr #[.bool (decide (0 < ZJ))] 4) (Nat.le_trans hB.size hBx.size) (by have := HN8.out; omega)
        have HRUN8 := Lib.hid hrun8
        have HROW8 := Lib.hid hrow8
        have HB8 := Lib.hid ((hB.trans (hBx.mono hB.size)).trans hlo8)
        have HM8 := Lib.hid hm8
        have ww5 : IntKind.i64.wrap ((j : Int) + 1) = (j : Int) + 1 := IntWalk.i64_in _ (by have := HN8.out; omega)
        have b9 : ((j : Int) < (k : Int)) = True := eq_true (by omega)
        have bk1 : (j < k) = True := eq_true hlj
        have HLJ := Lib.hid hlj
        clear c0 hZJ hrd hrow hob hB hBx hrun8 hrow8 hg8 hn8 hlo8 hm8 hlj
        go_wp2_with (at_builtin; refine Lib.wpList_append_run _ rfl (.tmp 61) (.tmp 68) 41 41 rfl _ _ rfl rfl _ _ HRUN8.out ?_)
        go_roundw
        case rel => exact ⟨j + 1, some o8, by have := HLJ.out; omega, by go_num, HROW8.out, (fun q e => by obtain rfl := Option.some.inj e; exact HM8.out), HB8.out⟩
        case measure => (have h8 := HLJ.out; first | (simp [intOf]; done) | (simp [intOf]; omega))
      obtain rfl : j = k := by omega
      obtain ⟨ra, rc, rfl, hbo⟩ := bools_row hrow
      have mr1 := hbo.le
      have mr2 := hbo.max
      unfold maxLen at mr2
      have HX4 := Lib.hid (HX2.out.step hB)
      have HF4 := Lib.hid (HF2.out.trans (Fr.of_below hB) (by simp))
      have HVP := Lib.hid (VP.out ra rc (ob.getD 0) 0 wr (HX4.out.tags (fun q hq => HI1.out.tok q hq)) hbo)
      have g2 : wr.cell? ⟨g, 2, none⟩ = some (.int .i64 s1.V) := cell_at HX4.out.blk 2
      have g3 : wr.cell? ⟨g, 3, none⟩ = some (.slice (some ⟨ft2, 0, none⟩) j c3) := cell_at HX4.out.blk 3
      clear hrow hob hB hbo VP HX2 HF2
      go_wp2_with fail
      go_at_call 33
      go_fit (HVP.out)
      rintro e W5 ⟨ft5, c5, rfl, hr5, hg5, hB5⟩
      obtain ⟨NB, hNB⟩ : ∃ N, N = W5.heap.size := ⟨_, rfl⟩
      obtain ⟨W6, hW6⟩ : ∃ W, W = W5.alloc (.cells #[.int .i64 now, .slice (some ⟨ft5, 0, none⟩) j c5] 39) := ⟨_, rfl⟩
      have hB6 : Below W5.heap.size W5 W6 := by rw [hW6]; exact alloc_b _ _
      have HBX := Lib.hid (show Blk W6 NB #[.int .i64 now, .slice (some ⟨ft5, 0, none⟩) j c5] 39 by rw [hW6, hNB]; exact blk_new _ _ _)
      have HX6 := Lib.hid ((HX4.out.step hB5).step hB6)
      have HF6 := Lib.hid ((HF4.out.trans (Fr.of_below hB5) (by simp)).trans (Fr.of_below hB6) (by simp))
      have HR6 := Lib.hid (hr5.congr (w' := W6) fun q e => by obtain rfl := Option.some.inj e; exact hB6.block _ hr5.lt)
      clear hr5 hg5 hB5 hB6 HVP g2 g3 HX4 HF4
      go_upto_region 19 with fail
      rw [← hNB, ← hW6]
      clear hNB hW6
      have w2 : IntKind.i64.wrap (p : Int) = (p : Int) := IntWalk.i64_in _ (by have := HPK.out; have := HN8.out; omega)
      have bp1 : (p < j) = True := eq_true HPK.out
      have bp2 : ((p : Int) < (j : Int)) = True := eq_true (by have := HPK.out; omega)
      have bp0 : ((0 : Int) ≤ (p : Int)) = True := eq_true (by omega)
      have HCZ : Hid (∀ W, Fr [g, fz, fv, ft] w W → W.cell? ⟨hb, ho + p * 2, none⟩ = some (.int .i64 Z)) := Lib.hid (fun W hf => by rw [HC.out W hf p HPK.out, HZZ.out]; rfl)
      go_upto_region 21 with fail
      refine wp_region_held_drew (S := fun X => X.cell? ⟨NB, 0, none⟩ = some (.int .i64 now) ∧ X.cell? ⟨NB, 1, none⟩ = some (.slice (some ⟨ft5, 0, none⟩) j c5) ∧ X.cell? ⟨hb, ho + p * 2, none⟩ = some (.int .i64 Z)) (by kernel_rfl) ⟨cell_at HBX.out 0, cell_at HBX.out 1, HCZ.out W6 HF6.out⟩ (fun hHeld => ?_)
      try simp only [Act.put, List.setIfInBounds_toArray, List.set_cons_zero, List.set_cons_succ]
      have Bz := belowN (Below.refl W6.heap.size W6) 1
      have HX7 := Lib.hid (show RfAt W6.drew M ⟨g, fw, fz, fv, j, cw, cz, cv⟩ ft2 c3 wt al s1 from HX6.out.step Bz)
      have HF7 : Hid (Fr [g, fz, fv, ft] w W6.drew) := Lib.hid (HF6.out.trans (Fr.of_below Bz) (by simp))
      have HBX7 := Lib.hid (show Blk W6.drew NB #[.int .i64 now, .slice (some ⟨ft5, 0, none⟩) j c5] 39 from HBX.out.step Bz)
      have HTG := Lib.hid (show TagsIn W6.drew (some ⟨ft5, 0, none⟩) j c5 ft5 0 s1.T by
        obtain ⟨a', c', he, ht⟩ := tags_row (HR6.out.congr (w' := W6.drew) fun q e => rfl) (fun q hq => HI1.out.tok q hq)
        injection he with e1 e2 e3
        subst e1 e3
        exact ht)
      clear Bz HX6 HF6 HBX
      ((refine wpAnyH_take (i := 0) (v := ?_) (by (simp only [List.getElem?_toArray, List.getElem?_cons_succ, List.getElem?_cons_zero]); rfl) (by kernel_rfl) (by kernel_rfl) (by kernel_rfl) (by exact fun _ _ _ h => h) (Or.inl ⟨by rfl, ?_⟩) (by assumption) ?_); rotate_left; focus (intro wS hSw; (try dsimp only at hSw); go_simp; first | done | with_reducible rfl); try simp only [Act.put, List.setIfInBounds_toArray, List.set_cons_zero, List.set_cons_succ])
      ((refine wpAnyH_take (i := 1) (v := ?_) (by (simp only [List.getElem?_toArray, List.getElem?_cons_succ, List.getElem?_cons_zero]); rfl) (by kernel_rfl) (by kernel_rfl) (by kernel_rfl) (by exact fun _ _ _ h => h) (Or.inl ⟨by rfl, ?_⟩) (by assumption) ?_); rotate_left; focus (intro wS hSw; (try dsimp only at hSw); go_simp; first | done | with_reducible rfl); try simp only [Act.put, List.setIfInBounds_toArray, List.set_cons_zero, List.set_cons_succ])
      ((refine wpAnyH_take (i := 2) (v := ?_) (by (simp only [List.getElem?_toArray, List.getElem?_cons_succ, List.getElem?_cons_zero]); rfl) (by kernel_rfl) (by kernel_rfl) (by kernel_rfl) (by exact fun _ _ _ h => h) (Or.inl ⟨by rfl, ?_⟩) (by assumption) ?_); rotate_left; focus (intro wS hSw; (try dsimp only at hSw); go_simp; first | done | with_reducible rfl); try simp only [Act.put, List.setIfInBounds_toArray, List.set_cons_zero, List.set_cons_succ])
      ((refine wpAnyH_take (i := 3) (v := ?_) (by (simp only [List.getElem?_toArray, List.getElem?_cons_succ, List.getElem?_cons_zero]); rfl) (by kernel_rfl) (by kernel_rfl) (by kernel_rfl) (by exact fun _ _ _ h => h) (Or.inl ⟨by rfl, ?_⟩) (by assumption) ?_); rotate_left; focus (intro wS hSw; (try dsimp only at hSw); go_simp; first | done | with_reducible rfl); try simp only [Act.put, List.setIfInBounds_toArray, List.set_cons_zero, List.set_cons_succ])
      ((refine wpAnyH_take (i := 4) (v := ?_) (by (simp only [List.getElem?_toArray, List.getElem?_cons_succ, List.getElem?_cons_zero]); rfl) (by kernel_rfl) (by kernel_rfl) (by kernel_rfl) (by exact fun _ _ _ h => h) (Or.inl ⟨by rfl, ?_⟩) (by assumption) ?_); rotate_left; focus (intro wS hSw; (try dsimp only at hSw); go_simp; first | done | with_reducible rfl); try simp only [Act.put, List.setIfInBounds_toArray, List.set_cons_zero, List.set_cons_succ])
      ((refine wpAnyH_take (i := 5) (v := ?_) (by (simp only [List.getElem?_toArray, List.getElem?_cons_succ, List.getElem?_cons_zero]); rfl) (by kernel_rfl) (by kernel_rfl) (by kernel_rfl) (by exact fun _ _ _ h => h) (Or.inl ⟨by rfl, ?_⟩) (by assumption) ?_); rotate_left; focus (intro wS hSw; (try dsimp only at hSw); go_simp; first | done | with_reducible rfl); try simp only [Act.put, List.setIfInBounds_toArray, List.set_cons_zero, List.set_cons_succ])
      ((refine wpAnyH_take (i := 6) (v := ?_) (by (simp only [List.getElem?_toArray, List.getElem?_cons_succ, List.getElem?_cons_zero]); rfl) (by kernel_rfl) (by kernel_rfl) (by kernel_rfl) (by exact fun _ _ _ h => h) (Or.inl ⟨by rfl, ?_⟩) (by assumption) ?_); rotate_left; focus (intro wS hSw; (try dsimp only at hSw); go_simp; first | done | with_reducible rfl); try simp only [Act.put, List.setIfInBounds_toArray, List.set_cons_zero, List.set_cons_succ])
      ((refine wpAnyH_ready (rs := [7]) (by kernel_rfl) (by simp) ?_); (refine AllReadyH.cons (by (simp only [List.getElem?_toArray, List.getElem?_cons_succ, List.getElem?_cons_zero]); rfl) (fun K hK => ?_) AllReadyH.nil); go_simp; go_fit (rvserve_ok now ft5 j c5 s1.T Z _ HTG.out HN8.out H0.out HSV.out))
      rintro e W9 ⟨ft9, c9, rfl, hr9, hg9, hB9⟩
      have HX9 := Lib.hid (HX7.out.step hB9)
      have HF9 := Lib.hid (HF7.out.trans (Fr.of_below hB9) (by simp))
      have HBX9 := Lib.hid (HBX7.out.step hB9)
      have HR9 := Lib.hid hr9
      have HT9 : Hid (M ≤ ft9) := Lib.hid (Nat.le_trans HX7.out.size hg9)
      clear hr9 hg9 hB9 HTG HX7 HF7 HBX7
      go_wp2_with fail
      refine hK.out _ _ ⟨cell_at HBX9.out 0, cell_at HBX9.out 1, HCZ.out _ HF9.out⟩ (fun hHeld => ?_)
      clear hK K
      try simp only [Act.put, List.setIfInBounds_toArray, List.set_cons_zero, List.set_cons_succ]
      ((refine wpAnyH_take (i := 8) (v := ?_) (by (simp only [List.getElem?_toArray, List.getElem?_cons_succ, List.getElem?_cons_zero]); rfl) (by kernel_rfl) (by kernel_rfl) (by kernel_rfl) (by exact fun _ _ _ h => h) (Or.inl ⟨by rfl, ?_⟩) (by assumption) ?_); rotate_left; focus (intro wS hSw; (try dsimp only at hSw); go_simp; first | done | with_reducible rfl); try simp only [Act.put, List.setIfInBounds_toArray, List.set_cons_zero, List.set_cons_succ])
      ((refine wpAnyH_take (i := 9) (v := ?_) (by (simp only [List.getElem?_toArray, List.getElem?_cons_succ, List.getElem?_cons_zero]); rfl) (by kernel_rfl) (by kernel_rfl) (by kernel_rfl) (by exact fun _ _ _ h => h) (Or.inl ⟨by rfl, ?_⟩) (by assumption) ?_); rotate_left; focus (intro wS hSw; (try dsimp only at hSw); go_simp; first | done | with_reducible rfl); try simp only [Act.put, List.setIfInBounds_toArray, List.set_cons_zero, List.set_cons_succ])
      ((refine wpAnyH_take (i := 10) (v := ?_) (by (simp only [List.getElem?_toArray, List.getElem?_cons_succ, List.getElem?_cons_zero]); rfl) (by kernel_rfl) (by kernel_rfl) (by kernel_rfl) (by exact fun _ _ _ h => h) (Or.inl ⟨by rfl, ?_⟩) (by assumption) ?_); rotate_left; focus (intro wS hSw; (try dsimp only at hSw); go_simp; first | done | with_reducible rfl); try simp only [Act.put, List.setIfInBounds_toArray, List.set_cons_zero, List.set_cons_succ])
      ((refine wpAnyH_take (i := 11) (v := ?_) (by (simp only [List.getElem?_toArray, List.getElem?_cons_succ, List.getElem?_cons_zero]); rfl) (by kernel_rfl) (by kernel_rfl) (by kernel_rfl) (by exact fun _ _ _ h => h) (Or.inl ⟨by rfl, ?_⟩) (by assumption) ?_); rotate_left; focus (intro wS hSw; (try dsimp only at hSw); go_simp; first | done | with_reducible rfl); try simp only [Act.put, List.setIfInBounds_toArray, List.set_cons_zero, List.set_cons_succ])
      ((refine wpAnyH_take (i := 12) (v := ?_) (by (simp only [List.getElem?_toArray, List.getElem?_cons_succ, List.getElem?_cons_zero]); rfl) (by kernel_rfl) (by kernel_rfl) (by kernel_rfl) (by exact fun _ _ _ h => h) (Or.inl ⟨by rfl, ?_⟩) (by assumption) ?_); rotate_left; focus (intro wS hSw; (try dsimp only at hSw); go_simp; first | done | with_reducible rfl); try simp only [Act.put, List.setIfInBounds_toArray, List.set_cons_zero, List.set_cons_succ])
      obtain ⟨V2, hV2⟩ : ∃ V2, V2 = now + Z * 720720 := ⟨_, rfl⟩
      rw [← hV2]
      have HVV := Lib.hid hV2
      have g2 : W9.cell? ⟨g, 2, none⟩ = some (.int .i64 s1.V) := cell_at HX9.out.blk 2
      have g3 : W9.cell? ⟨g, 3, none⟩ = some (.slice (some ⟨ft2, 0, none⟩) j c3) := cell_at HX9.out.blk 3
      have gz : ∀ j, W9.frozen? ⟨g, j, none⟩ = false := fun j => free_at HX9.out.blk j
      have gl : g < W9.heap.size := HX9.out.blk.lt
      clear hV2
      refine wpAnyH_ready (rs := [13]) (by kernel_rfl) (by simp) ?_
      refine AllReadyH.cons (by (simp only [List.getElem?_toArray, List.getElem?_cons_succ, List.getElem?_cons_zero]); rfl) (fun K hK => ?_) AllReadyH.nil
      generalize hW10' : (W9.setCell ⟨g, 2, none⟩ (.int .i64 V2)).setCell ⟨g, 3, none⟩ (.slice (some ⟨ft9, 0, none⟩) j c9) = W10
      have hW10 := hW10'.symm
      clear hW10'
      have hvt := HX9.out.vt HR9.out HT9.out hW10
      have hx10 := hvt.1
      have hf10 := hvt.2
      clear hvt
      have HX10 := Lib.hid hx10
      have HF10 := Lib.hid (HF9.out.trans hf10 (by simp))
      have hbx10 : Blk W10 NB #[.int .i64 now, .slice (some ⟨ft5, 0, none⟩) j c5] 39 := (hf10.block NB HBX9.out.lt (by simpa using blk_dis HBX9.out HX9.out.blk (by decide))).trans HBX9.out
      have HBX10 := Lib.hid hbx10
      clear hx10 hf10 hbx10
      go_simp
      rw [← hW10]
      refine hK _ _ ⟨cell_at HBX10.out 0, cell_at HBX10.out 1, HCZ.out _ HF10.out⟩ (fun hHeld => ?_)
      clear hK K hW10 g2 g3 gz gl
      try simp only [Act.put, List.setIfInBounds_toArray, List.set_cons_zero, List.set_cons_succ]
      refine wpAnyH_done (by kernel_rfl) ?_ _
      try simp only [Act.put, List.setIfInBounds_toArray, List.set_cons_zero, List.set_cons_succ]
      clear HX9 HF9 HBX9 HR9 HT9 HBX10 HR6 w2
      go_upto_region 22 with fail
      have HX11 := Lib.hid (show RfAt W10 M ⟨g, fw, fz, fv, j, cw, cz, cv⟩ ft9 c9 wt al ⟨V2, s1.T, s1.z, s1.sv⟩ from HX10.out)
      have HF11 : Hid (Fr [g, fz, fv, ft] w W10) := Lib.hid HF10.out
      have HTG := Lib.hid (HX11.out.tags (fun q hq => HI1.out.tok q hq))
      have e2 : W10.cell? ⟨g, 2, none⟩ = some (.int .i64 V2) := cell_at HX11.out.blk 2
      have e3 : W10.cell? ⟨g, 3, none⟩ = some (.slice (some ⟨ft9, 0, none⟩) j c9) := cell_at HX11.out.blk 3
      clear HX10 HF10
      go_wp2_with fail
      go_at_call 35
      go_fit (rvreb_ok V2 ft9 j c9 s1.T _ HTG.out HN8.out H0.out (by rw [HVV.out]; exact HV2.out))
      rintro e W12 ⟨ft12, c12, rfl, hr12, hg12, hB12⟩
      have HX12 := Lib.hid (HX11.out.step hB12)
      have HF12 := Lib.hid (HF11.out.trans (Fr.of_below hB12) (by simp))
      have HR12 := Lib.hid hr12
      have HT12 : Hid (M ≤ ft12 ∧ w.heap.size ≤ ft12) := Lib.hid ⟨Nat.le_trans HX11.out.size hg12, Nat.le_trans HF11.out.size hg12⟩
      clear hr12 hg12 hB12 HTG HX11 HF11 e2 e3
      have g2 : W12.cell? ⟨g, 2, none⟩ = some (.int .i64 V2) := cell_at HX12.out.blk 2
      have g3 : W12.cell? ⟨g, 3, none⟩ = some (.slice (some ⟨ft9, 0, none⟩) j c9) := cell_at HX12.out.blk 3
      have gz : ∀ j, W12.frozen? ⟨g, j, none⟩ = false := fun j => free_at HX12.out.blk j
      have gl : g < W12.heap.size := HX12.out.blk.lt
      go_upto_region 23 with fail
      generalize hV3' : reV V2 = V3
      have HV3 := Lib.hid hV3'.symm
      clear hV3'
      generalize hW13' : (W12.setCell ⟨g, 2, none⟩ (.int .i64 V3)).setCell ⟨g, 3, none⟩ (.slice (some ⟨ft12, 0, none⟩) j c12) = W13
      have hW13 := hW13'.symm
      clear hW13'
      have hvt := HX12.out.vt HR12.out HT12.out.1 hW13
      have hx13 := hvt.1
      have hf13 := hvt.2
      clear hvt
      have HX13 := Lib.hid hx13
      have HF13 := Lib.hid (HF12.out.trans hf13 (by simp))
      clear hx13 hf13 hW13 g2 g3 gz gl
      clear HX12 HF12 HR12
      have f5 : W13.cell? ⟨g, 5, none⟩ = some (.slice (some ⟨fv, 0, none⟩) j cv) := cell_at HX13.out.blk 5
      have fv0 := HX13.out.sv.cell HPK.out
      have ff := HX13.out.sv.free
      have fl := HX13.out.sv.lt
      simp only at fv0 ff fl
      obtain ⟨W14, hW14⟩ : ∃ W, W = W13.setCell ⟨fv, p, none⟩ (.bool true) := ⟨_, rfl⟩
      obtain ⟨hx14, hf14⟩ := HX13.out.sv1 HPK.out hW14
      have HX14 : Hid (RfAt W14 M ⟨g, fw, fz, fv, j, cw, cz, cv⟩ ft12 c12 wt al (pkS j wt al (hsz E) s)) := Lib.hid (by
        rw [HRES.out.2.2, takeS_re, ← HVV.out, ← HV3.out]
        exact hx14)
      have HF14 := Lib.hid (HF13.out.trans hf14 (by simp))
      clear hx14 hf14
      go_upto_region 24 with fail
      rw [← hW14]
      clear hW14 f5 fv0 ff fl
      go_wp2_with fail
      try rw [Exit.noGoto_ret]
      exact bodyPost_ret (v := .tuple #[.int .i64 p, .bool true]) (by simp [results, Try.results12, go_sem]) rfl ⟨by rw [HRES.out.1, HRES.out.2.1], ⟨_, _, HX14.out, HF14.out, .inr HT12.out.2⟩⟩
end Go.Proofs.Ytnainlemnkfpkaa
