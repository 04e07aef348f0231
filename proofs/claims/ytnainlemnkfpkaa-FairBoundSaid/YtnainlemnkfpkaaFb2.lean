/-
  What is told of heads: the document.
-/
import Derived.Test.YtnainlemnkfpkaaFb1
namespace Go.Proofs.Ytnainlemnkfpkaa
open Go.RowKit
set_option linter.unusedSimpArgs false
set_option linter.unusedVariables false

theorem hT1_ok {n : Nat} {s : FS} (h : Inv n s) (k : Nat) (m : Int) (j : Nat) (hj : j < n) : (hT1 k m s j).ok := by
  have h1 := h.tok j hj
  by_cases hjk : j = k
  · subst hjk
    obtain ⟨e1, e2⟩ := hT1_k j m s
    unfold TagsE.ok at h1 ⊢
    rcases e2 with e | ⟨e, _⟩ <;> omega
  · rw [hT1_ne _ _ _ _ hjk]; exact h1
structure RtP (M : Nat) (x : RL) (ft : Nat) (wt : Nat → Int) (al : Int) (s' : FS) (w w' : World) : Prop where
  ex : ∃ ft' c', RfAt w' M x ft' c' wt al s' ∧ Fr [x.g, x.fz, x.fv, ft] w w' ∧ (ft' = ft ∨ w.heap.size ≤ ft')
structure Bx (W0 W : World) (NB ft' n c' : Nat) (V : Int) (T : Nat → TagsE) : Prop where
  tb : Blk W NB #[.int .i64 V, .slice (some ⟨ft', 0, none⟩) n c'] 39
  row : Row W (.slice (some ⟨ft', 0, none⟩) n c') (some ft') 80 2 n (tagsL T n)
  b : Below W0.heap.size W0 W
  ge : W0.heap.size ≤ ft'
set_option maxRecDepth 100000 in
set_option maxHeartbeats 40000000 in
theorem told_ok (M : Nat) (x : RL) (ft c2 : Nat) (wt : Nat → Int) (al : Int) (s : FS) (a : Option Addr) (cap hb ho : Nat) (E : Nat → HdE) (w : World) (h : RfAt w M x ft c2 wt al s) (hE : ∀ W', Fr [x.g, x.fz, x.fv, ft] w W' → HdIn W' a x.n cap hb ho E) (hm : okHd (hsz E) x.n) (hi : Inv x.n s) (hw : WtOk x.n wt al) (hn0 : 0 < x.n) :
    Calls Try.prog 32 #[.pointer (some ⟨x.g, 0, none⟩), .slice a x.n cap] w fun e w' => e = .returned (.tuple #[]) ∧ RtP M x ft wt al (hearN wt al (hsz E) x.n s) w w' := by
  obtain ⟨g, fw, fz, fv, n, cw, cz, cv⟩ := x
  simp only at hE hm hi hw hn0 ⊢
  obtain ⟨ea, _⟩ := (hE w (Fr.refl _ _)).at_ hn0
  subst ea
  have HE := Lib.hid hE
  have HM := Lib.hid hm
  have HI := Lib.hid hi
  have HW := Lib.hid hw
  have HN8 := Lib.hid hi.n8
  have H0 := Lib.hid h
  clear h hE hm hi hw
  go_enter Try.func32, Try.ntmps32
  go_wp2_with fail
  go_loopw [4, 5, 6, 7, 8, 9] (fun i _ _ _ _ _ wr => ∃ k ft' c', k ≤ n ∧ i = .int .i64 k ∧ RfAt wr M ⟨g, fw, fz, fv, n, cw, cz, cv⟩ ft' c' wt al (hearN wt al (hsz E) k s) ∧ Fr [g, fz, fv, ft] w wr ∧ (ft' = ft ∨ w.heap.size ≤ ft')) (fun i _ _ _ _ _ _ => n - (intOf i).toNat)
  case atStart => exact ⟨0, ft, c2, Nat.zero_le _, rfl, H0.out, Fr.refl _ _, .inl rfl⟩
  case round =>
    clear H0
    obtain ⟨k, FT, CT, hk, rfl, hx, hf, hft⟩ := hrel
    by_cases hlt : k < n
    rotate_left
    · obtain rfl : k = n := by omega
      have HX := Lib.hid hx
      have HF := Lib.hid hf
      have HFT := Lib.hid hft
      clear hx hf hft
      go_wp2_with fail
      go_end0
      exact ⟨rfl, ⟨_, _, HX.out, HF.out, HFT.out⟩⟩
    obtain ⟨s1, hs1⟩ : ∃ s1, s1 = hearN wt al (hsz E) k s := ⟨_, rfl⟩
    have hi1 : Inv n s1 := by rw [hs1]; exact inv_hearN HW.out HM.out k HI.out (Nat.le_of_lt hlt)
    rw [← hs1] at hx
    obtain ⟨c0, _⟩ := (HE.out wr hf).cell k hlt
    obtain ⟨Z, hZ⟩ : ∃ z, z = hsz E k := ⟨_, rfl⟩
    have c0' : wr.cell? ⟨hb, ho + k * 2, none⟩ = some (.int .i64 Z) := by rw [c0, hZ]; rfl
    clear c0
    have hz2 : 0 ≤ Z ∧ Z ≤ 1500 := by rw [hZ]; exact HM.out k hlt
    obtain ⟨WT, hWT⟩ : ∃ x, x = wt k := ⟨_, rfl⟩
    have hwk := HW.out.w k hlt
    have hwa := HW.out.a
    have hzk := (hi1.k k hlt).z0
    have e4 : wr.cell? ⟨g, 4, none⟩ = some (.slice (some ⟨fz, 0, none⟩) n cz) := cell_at hx.blk 4
    have e5 : wr.cell? ⟨g, 5, none⟩ = some (.slice (some ⟨fv, 0, none⟩) n cv) := cell_at hx.blk 5
    have z0 := hx.z.cell hlt
    have v0 := hx.sv.cell hlt
    simp only at z0 v0
    obtain ⟨ZK, hZK⟩ : ∃ x, x = s1.z k := ⟨_, rfl⟩
    rw [← hZK] at z0 hzk
    have HFN : Hid (∀ T, (if hNew k Z s1 = true then updT (hT1 k Z s1) k ⟨hAt k Z s1, hAt k Z s1 + costS Z (wt k) al⟩ else hT1 k Z s1) = T → hearN wt al (hsz E) (k + 1) s = ⟨s1.V, T, upf s1.z k Z, upf s1.sv k false⟩) := Lib.hid (fun T hT => by
      show hearS (wt k) al k (hsz E k) (hearN wt al (hsz E) k s) = _
      rw [← hs1, ← hZ]
      exact hearS_T (wt k) al k Z s1 T hT)
    have HX := Lib.hid hx
    have HF := Lib.hid hf
    have HFT := Lib.hid hft
    have HI1 := Lib.hid hi1
    have HK := Lib.hid hlt
    have HLT := Lib.hid hlt
    have HWT := Lib.hid hWT
    have HZK : Hid (s1.z k = ZK) := Lib.hid hZK.symm
    have ww5 : IntKind.i64.wrap ((k : Int) + 1) = (k : Int) + 1 := IntWalk.i64_in _ (by have := HN8.out; omega)
    have b9 : ((k : Int) < (n : Int)) = True := eq_true (by omega)
    have bk1 : (k < n) = True := eq_true hlt
    have bk0 : ((0 : Int) ≤ (k : Int)) = True := eq_true (by omega)
    clear hx hf hft hs1 hZ
    have hok1 : ∀ j, j < n → (hT1 k Z s1 j).ok := fun j hj => hT1_ok hi1 k Z j hj
    have hgood : hNew k Z s1 = true → goodTag s1.V n (hT1 k Z s1) k (costS Z (wt k) al) (hAt k Z s1) = true := fun hn => hear_good hi1 hlt (m := Z) (by unfold hNew at hn; simp at hn; omega) hwk hwa hn
    obtain ⟨T1, hT1e⟩ : ∃ T, T = hT1 k Z s1 := ⟨_, rfl⟩
    have HT1 := Lib.hid hT1e
    rw [← hT1e] at hok1 hgood HFN
    have HOK1 := Lib.hid hok1
    have HGD := Lib.hid hgood
    have HWA := Lib.hid hwk
    obtain ⟨SV, hSV⟩ : ∃ b, b = s1.sv k := ⟨_, rfl⟩
    have HSV := Lib.hid hSV
    rw [← hSV] at v0
    obtain ⟨BB, hBB⟩ : ∃ B, B = (decide (0 < ZK) && !SV && (ZK != Z)) := ⟨_, rfl⟩
    have HBB := Lib.hid hBB
    have HZ2 := Lib.hid hz2
    clear hi1 hok1 hgood hT1e hwk hwa hWT hZK hSV hz2
    go_upto_region 4 with fail
    go_cut [49] (fun v W => v = .bool BB ∧ wr = W)
    case first =>
      clear hzk
      cases SV
      · by_cases hzp : 0 < ZK
        · have d1 : decide (0 < ZK) = true := decide_eq_true hzp
          by_cases hzm : ZK = Z
          · have d2 : (ZK != Z) = false := by simp [hzm]
            rw [d1, d2] at hBB
            subst hBB
            clear hzm hzp
            go_wp2_with fail
            go_meet
            exact ⟨rfl, rfl⟩
          · have d2 : (ZK != Z) = true := by simp [hzm]
            rw [d1, d2] at hBB
            subst hBB
            clear hzm hzp
            go_wp2_with fail
            go_meet
            exact ⟨rfl, rfl⟩
        · have d1 : decide (0 < ZK) = false := decide_eq_false hzp
          rw [d1] at hBB
          subst hBB
          clear hzp
          go_wp2_with fail
          go_meet
          exact ⟨rfl, rfl⟩
      · by_cases hzp : 0 < ZK
        · have d1 : decide (0 < ZK) = true := decide_eq_true hzp
          rw [d1] at hBB
          subst hBB
          clear hzp
          go_wp2_with fail
          go_meet
          exact ⟨rfl, rfl⟩
        · have d1 : decide (0 < ZK) = false := decide_eq_false hzp
          rw [d1] at hBB
          subst hBB
          clear hzp
          go_wp2_with fail
          go_meet
          exact ⟨rfl, rfl⟩
    case rest =>
    obtain ⟨rfl, rfl⟩ := hcut
    clear hBB
    go_upto_if 49 with fail
    go_cut [50] (fun _ W => ∃ W', W' = W ∧ RfAt W' M ⟨g, fw, fz, fv, n, cw, cz, cv⟩ FT CT wt al ⟨s1.V, T1, s1.z, s1.sv⟩ ∧ Fr [g, fz, fv, ft] w W')
    case first =>
      have hbb := HBB.out
      have hT := HT1.out
      cases BB
      · have hT2 : T1 = s1.T := by
          rw [hT]
          unfold hT1
          rw [if_neg]
          rintro ⟨q1, q2, q3⟩
          rw [HZK.out] at q2 q3
          rw [HSV.out, q1] at hbb
          simp [q3, q2] at hbb
        have HX' : Hid (RfAt wr M ⟨g, fw, fz, fv, n, cw, cz, cv⟩ FT CT wt al ⟨s1.V, T1, s1.z, s1.sv⟩) := Lib.hid (by rw [hT2]; exact HX.out)
        clear hbb hT hT2
        go_wp2_with fail
        go_meet
        exact ⟨_, rfl, HX'.out, HF.out⟩
      · have hT2 : T1 = updT s1.T k ⟨(s1.T k).s, (s1.T k).s⟩ := by
          rw [hT]
          unfold hT1
          rw [if_pos]
          have hq := HSV.out
          cases SV
          · simp at hbb
            exact ⟨hq.symm, by rw [HZK.out]; exact hbb.2, by rw [HZK.out]; exact hbb.1⟩
          · simp at hbb
        obtain ⟨W5, hW5⟩ : ∃ W, W = (wr.setCell ⟨FT, k * 2 + 1, none⟩ (.int .i64 (s1.T k).s)).drew := ⟨_, rfl⟩
        obtain ⟨hx5', hf5'⟩ := HX.out.cut hlt rfl
        have hx5 := hx5'.step (belowN (Below.refl _ _) 1)
        have hf5 : Fr [FT] wr W5 := by rw [hW5]; exact hf5'.trans (Fr.of_below (belowN (Below.refl _ _) 1)) (by simp)
        have hW5' : W5 = ((wr.setCell ⟨FT, k * 2 + 1, none⟩ (.int .i64 (s1.T k).s)).drewN 1) := hW5
        rw [← hW5', ← hT2] at hx5
        have HX5 := Lib.hid hx5
        have HF5 : Hid (Fr [g, fz, fv, ft] w W5) := Lib.hid (HF.out.trans hf5 (fun q hq => by
          obtain rfl : q = FT := by simpa using hq
          rcases HFT.out with e | e
          · exact .inl (by rw [e]; simp)
          · exact .inr e))
        have e3 : wr.cell? ⟨g, 3, none⟩ = some (.slice (some ⟨FT, 0, none⟩) n CT) := cell_at HX.out.blk 3
        obtain ⟨g', eg, _, el4, e6, e7, e8, e9⟩ := own_k HX.out.tg hlt
        obtain rfl := Option.some.inj eg
        obtain ⟨SS, hSS⟩ : ∃ x, x = (s1.T k).s := ⟨_, rfl⟩
        rw [← hSS] at e6 hW5
        clear hW5' hx5' hf5' hx5 hf5 hbb hT hT2 hSS
        go_upto_region 5 with fail
        go_still_tail 17, (by kernel_rfl)
        change wpList _ _ _ _ _ wr.drew
        go_wp2_with fail
        rw [← hW5]
        go_meet
        exact ⟨_, rfl, HX5.out, HF5.out⟩
    case rest =>
    obtain ⟨W5, rfl, hx5, hf5⟩ := hcut
    have HX5 := Lib.hid hx5
    have HF5 := Lib.hid hf5
    clear c0' e4 e5 z0 v0 HX HF HBB
    have e4 : W5.cell? ⟨g, 4, none⟩ = some (.slice (some ⟨fz, 0, none⟩) n cz) := cell_at hx5.blk 4
    have e5 : W5.cell? ⟨g, 5, none⟩ = some (.slice (some ⟨fv, 0, none⟩) n cv) := cell_at hx5.blk 5
    have z0 : W5.cell? ⟨fz, k, none⟩ = some (.int .i64 ZK) := by have := hx5.z.cell hlt; simp only at this; rw [this, HZK.out]
    have v0 : W5.cell? ⟨fv, k, none⟩ = some (.bool SV) := by have := hx5.sv.cell hlt; simp only at this; rw [this, HSV.out]
    clear hx5 hf5 hzk
    by_cases hz0 : Z = 0
    · have hnew : hNew k Z s1 = false := by unfold hNew; simp [hz0]
      have HE1 := Lib.hid (HFN.out T1 (by rw [if_neg (by rw [hnew]; simp)]))
      have d0 : (Z == 0) = true := by simp [hz0]
      clear hnew hlt hz0
      go_upto_region 13 with fail
      clear e4 e5 z0 v0
      obtain ⟨W8, hW8⟩ : ∃ W, W = W5.setCell ⟨fz, k, none⟩ (.int .i64 Z) := ⟨_, rfl⟩
      obtain ⟨W9, hW9⟩ : ∃ W, W = W8.setCell ⟨fv, k, none⟩ (.bool false) := ⟨_, rfl⟩
      obtain ⟨hx8, hx9, hf8, hf9⟩ := HX5.out.end_ HK.out Z false hW8 hW9
      have y4 : W5.cell? ⟨g, 4, none⟩ = some (.slice (some ⟨fz, 0, none⟩) n cz) := cell_at HX5.out.blk 4
      have yz := HX5.out.z.cell HK.out
      have yf := HX5.out.z.free
      have yl := HX5.out.z.lt
      have x5 : W8.cell? ⟨g, 5, none⟩ = some (.slice (some ⟨fv, 0, none⟩) n cv) := cell_at hx8.blk 5
      have xv := hx8.sv.cell HK.out
      have xf := hx8.sv.free
      have xl := hx8.sv.lt
      have HX9 := Lib.hid (show RfAt W9 M ⟨g, fw, fz, fv, n, cw, cz, cv⟩ FT CT wt al (hearN wt al (hsz E) (k + 1) s) by rw [HE1.out]; exact hx9)
      have HF9 := Lib.hid ((HF5.out.trans hf8 (by simp)).trans hf9 (by simp))
      simp only at yz yf yl xv xf xl
      clear hx8 hx9 hf8 hf9
      go_upto_region 14 with fail
      rw [← hW8]
      clear hW8 y4 yz yf yl
      go_upto_region 2 with fail
      rw [← hW9]
      clear hW9 x5 xv xf xl
      go_wp2_with fail
      go_roundw
      case rel => exact ⟨k + 1, _, _, by have := HLT.out; omega, by go_num, HX9.out, HF9.out, HFT.out⟩
      case measure => (have h8 := HLT.out; first | (simp [intOf]; done) | (simp [intOf]; omega))
    have d0 : (Z == 0) = false := by simp [hz0]
    cases SV
    rotate_left
    · have hs : s1.sv k = true := HSV.out.symm
      have hnew : hNew k Z s1 = true := by unfold hNew; simp [hs, hz0]
      have hA : hAt k Z s1 = (T1 k).f := by unfold hAt; rw [if_pos hs, HT1.out]; unfold hT1; rw [if_neg (by simp [hs])]
      have HE1 := Lib.hid (HFN.out (updT T1 k ⟨(T1 k).f, (T1 k).f + costS Z (wt k) al⟩) (by rw [if_pos hnew, hA]))
      have hg := HGD.out hnew
      rw [hA] at hg
      have NX := Lib.hid (fun W hs => rnext_ok s1.V FT n CT T1 k Z (wt k) al W hs HN8.out hlt hg)
      rw [← HWT.out] at NX
      clear hnew hA hg hs hlt hz0
      go_upto_region 8 with fail
      go_cut [6, 7] (fun v6 v7 W => ∃ (W' : World) (NB ft' c' : Nat), W' = W ∧ v6 = .pointer (some ⟨NB, 0, none⟩) ∧ Bx W5 W' NB ft' n c' s1.V (updT T1 k ⟨(T1 k).f, (T1 k).f + costS Z WT al⟩))
      case first =>
        refine wp_region_held_drew (S := fun X => X.cell? ⟨g, 0, none⟩ = some (.slice (some ⟨fw, 0, none⟩) n cw) ∧ X.cell? ⟨g, 1, none⟩ = some (.int .i64 al) ∧ X.cell? ⟨g, 2, none⟩ = some (.int .i64 s1.V) ∧ X.cell? ⟨g, 3, none⟩ = some (.slice (some ⟨FT, 0, none⟩) n CT) ∧ X.cell? ⟨fw, k, none⟩ = some (.int .i64 WT)) (by kernel_rfl) ⟨cell_at HX5.out.blk 0, cell_at HX5.out.blk 1, cell_at HX5.out.blk 2, cell_at HX5.out.blk 3, by rw [HWT.out]; exact HX5.out.w.cell HK.out⟩ (fun hHeld => ?_)
        try simp only [Act.put, List.setIfInBounds_toArray, List.set_cons_zero, List.set_cons_succ]
        have Bz := belowN (Below.refl W5.heap.size W5) 1
        have HX6 := Lib.hid (show RfAt W5.drew M ⟨g, fw, fz, fv, n, cw, cz, cv⟩ FT CT wt al ⟨s1.V, T1, s1.z, s1.sv⟩ from HX5.out.step Bz)
        have HB6 : Hid (Below W5.heap.size W5 W5.drew) := Lib.hid Bz
        clear Bz
        ((refine wpAnyH_take (i := 0) (v := ?_) (by (simp only [List.getElem?_toArray, List.getElem?_cons_succ, List.getElem?_cons_zero]); rfl) (by kernel_rfl) (by kernel_rfl) (by kernel_rfl) (by exact fun _ _ _ h => h) (Or.inl ⟨by rfl, ?_⟩) (by assumption) ?_); rotate_left; focus (intro wS hSw; (try dsimp only at hSw); go_simp; first | done | with_reducible rfl); try simp only [Act.put, List.setIfInBounds_toArray, List.set_cons_zero, List.set_cons_succ])
        ((refine wpAnyH_take (i := 1) (v := ?_) (by (simp only [List.getElem?_toArray, List.getElem?_cons_succ, List.getElem?_cons_zero]); rfl) (by kernel_rfl) (by kernel_rfl) (by kernel_rfl) (by exact fun _ _ _ h => h) (Or.inl ⟨by rfl, ?_⟩) (by assumption) ?_); rotate_left; focus (intro wS hSw; (try dsimp only at hSw); go_simp; first | done | with_reducible rfl); try simp only [Act.put, List.setIfInBounds_toArray, List.set_cons_zero, List.set_cons_succ])
        ((refine wpAnyH_take (i := 2) (v := ?_) (by (simp only [List.getElem?_toArray, List.getElem?_cons_succ, List.getElem?_cons_zero]); rfl) (by kernel_rfl) (by kernel_rfl) (by kernel_rfl) (by exact fun _ _ _ h => h) (Or.inl ⟨by rfl, ?_⟩) (by assumption) ?_); rotate_left; focus (intro wS hSw; (try dsimp only at hSw); go_simp; first | done | with_reducible rfl); try simp only [Act.put, List.setIfInBounds_toArray, List.set_cons_zero, List.set_cons_succ])
        ((refine wpAnyH_take (i := 3) (v := ?_) (by (simp only [List.getElem?_toArray, List.getElem?_cons_succ, List.getElem?_cons_zero]); rfl) (by kernel_rfl) (by kernel_rfl) (by kernel_rfl) (by exact fun _ _ _ h => h) (Or.inl ⟨by rfl, ?_⟩) (by assumption) ?_); rotate_left; focus (intro wS hSw; (try dsimp only at hSw); go_simp; first | done | with_reducible rfl); try simp only [Act.put, List.setIfInBounds_toArray, List.set_cons_zero, List.set_cons_succ])
        ((refine wpAnyH_take (i := 4) (v := ?_) (by (simp only [List.getElem?_toArray, List.getElem?_cons_succ, List.getElem?_cons_zero]); rfl) (by kernel_rfl) (by kernel_rfl) (by kernel_rfl) (by exact fun _ _ _ h => h) (Or.inl ⟨by rfl, ?_⟩) (by assumption) ?_); rotate_left; focus (intro wS hSw; (try dsimp only at hSw); go_simp; first | done | with_reducible rfl); try simp only [Act.put, List.setIfInBounds_toArray, List.set_cons_zero, List.set_cons_succ])
        ((refine wpAnyH_take (i := 5) (v := ?_) (by (simp only [List.getElem?_toArray, List.getElem?_cons_succ, List.getElem?_cons_zero]); rfl) (by kernel_rfl) (by kernel_rfl) (by kernel_rfl) (by exact fun _ _ _ h => h) (Or.inl ⟨by rfl, ?_⟩) (by assumption) ?_); rotate_left; focus (intro wS hSw; (try dsimp only at hSw); go_simp; first | done | with_reducible rfl); try simp only [Act.put, List.setIfInBounds_toArray, List.set_cons_zero, List.set_cons_succ])
        ((refine wpAnyH_take (i := 6) (v := ?_) (by (simp only [List.getElem?_toArray, List.getElem?_cons_succ, List.getElem?_cons_zero]); rfl) (by kernel_rfl) (by kernel_rfl) (by kernel_rfl) (by exact fun _ _ _ h => h) (Or.inl ⟨by rfl, ?_⟩) (by assumption) ?_); rotate_left; focus (intro wS hSw; (try dsimp only at hSw); go_simp; first | done | with_reducible rfl); try simp only [Act.put, List.setIfInBounds_toArray, List.set_cons_zero, List.set_cons_succ])
        ((refine wpAnyH_take (i := 7) (v := ?_) (by (simp only [List.getElem?_toArray, List.getElem?_cons_succ, List.getElem?_cons_zero]); rfl) (by kernel_rfl) (by kernel_rfl) (by kernel_rfl) (by exact fun _ _ _ h => h) (Or.inl ⟨by rfl, ?_⟩) (by assumption) ?_); rotate_left; focus (intro wS hSw; (try dsimp only at hSw); go_simp; first | done | with_reducible rfl); try simp only [Act.put, List.setIfInBounds_toArray, List.set_cons_zero, List.set_cons_succ])
        ((refine wpAnyH_take (i := 8) (v := ?_) (by (simp only [List.getElem?_toArray, List.getElem?_cons_succ, List.getElem?_cons_zero]); rfl) (by kernel_rfl) (by kernel_rfl) (by kernel_rfl) (by exact fun _ _ _ h => h) (Or.inl ⟨by rfl, ?_⟩) (by assumption) ?_); rotate_left; focus (intro wS hSw; (try dsimp only at hSw); go_simp; first | done | with_reducible rfl); try simp only [Act.put, List.setIfInBounds_toArray, List.set_cons_zero, List.set_cons_succ])
        ((refine wpAnyH_take (i := 9) (v := ?_) (by (simp only [List.getElem?_toArray, List.getElem?_cons_succ, List.getElem?_cons_zero]); rfl) (by kernel_rfl) (by kernel_rfl) (by kernel_rfl) (by exact fun _ _ _ h => h) (Or.inl ⟨by rfl, ?_⟩) (by assumption) ?_); rotate_left; focus (intro wS hSw; (try dsimp only at hSw); go_simp; first | done | with_reducible rfl); try simp only [Act.put, List.setIfInBounds_toArray, List.set_cons_zero, List.set_cons_succ])
        ((refine wpAnyH_take (i := 10) (v := ?_) (by (simp only [List.getElem?_toArray, List.getElem?_cons_succ, List.getElem?_cons_zero]); rfl) (by kernel_rfl) (by kernel_rfl) (by kernel_rfl) (by exact fun _ _ _ h => h) (Or.inl ⟨by rfl, ?_⟩) (by assumption) ?_); rotate_left; focus (intro wS hSw; (try dsimp only at hSw); go_simp; first | done | with_reducible rfl); try simp only [Act.put, List.setIfInBounds_toArray, List.set_cons_zero, List.set_cons_succ])
        ((refine wpAnyH_take (i := 11) (v := ?_) (by (simp only [List.getElem?_toArray, List.getElem?_cons_succ, List.getElem?_cons_zero]); rfl) (by kernel_rfl) (by kernel_rfl) (by kernel_rfl) (by exact fun _ _ _ h => h) (Or.inl ⟨by rfl, ?_⟩) (by assumption) ?_); rotate_left; focus (intro wS hSw; (try dsimp only at hSw); go_simp; first | done | with_reducible rfl); try simp only [Act.put, List.setIfInBounds_toArray, List.set_cons_zero, List.set_cons_succ])
        ((refine wpAnyH_take (i := 12) (v := ?_) (by (simp only [List.getElem?_toArray, List.getElem?_cons_succ, List.getElem?_cons_zero]); rfl) (by kernel_rfl) (by kernel_rfl) (by kernel_rfl) (by exact fun _ _ _ h => h) (Or.inl ⟨by rfl, ?_⟩) (by assumption) ?_); rotate_left; focus (intro wS hSw; (try dsimp only at hSw); go_simp; first | done | with_reducible rfl); try simp only [Act.put, List.setIfInBounds_toArray, List.set_cons_zero, List.set_cons_succ])
        ((refine wpAnyH_take (i := 13) (v := ?_) (by (simp only [List.getElem?_toArray, List.getElem?_cons_succ, List.getElem?_cons_zero]); rfl) (by kernel_rfl) (by kernel_rfl) (by kernel_rfl) (by exact fun _ _ _ h => h) (Or.inl ⟨by rfl, ?_⟩) (by assumption) ?_); rotate_left; focus (intro wS hSw; (try dsimp only at hSw); go_simp; first | done | with_reducible rfl); try simp only [Act.put, List.setIfInBounds_toArray, List.set_cons_zero, List.set_cons_succ])
        ((refine wpAnyH_take (i := 14) (v := ?_) (by (simp only [List.getElem?_toArray, List.getElem?_cons_succ, List.getElem?_cons_zero]); rfl) (by kernel_rfl) (by kernel_rfl) (by kernel_rfl) (by exact fun _ _ _ h => h) (Or.inl ⟨by rfl, ?_⟩) (by assumption) ?_); rotate_left; focus (intro wS hSw; (try dsimp only at hSw); go_simp; first | done | with_reducible rfl); try simp only [Act.put, List.setIfInBounds_toArray, List.set_cons_zero, List.set_cons_succ])
        ((refine wpAnyH_take (i := 15) (v := ?_) (by (simp only [List.getElem?_toArray, List.getElem?_cons_succ, List.getElem?_cons_zero]); rfl) (by kernel_rfl) (by kernel_rfl) (by kernel_rfl) (by exact fun _ _ _ h => h) (Or.inl ⟨by rfl, ?_⟩) (by assumption) ?_); rotate_left; focus (intro wS hSw; (try dsimp only at hSw); go_simp; first | done | with_reducible rfl); try simp only [Act.put, List.setIfInBounds_toArray, List.set_cons_zero, List.set_cons_succ])
        ((refine wpAnyH_take (i := 16) (v := ?_) (by (simp only [List.getElem?_toArray, List.getElem?_cons_succ, List.getElem?_cons_zero]); rfl) (by kernel_rfl) (by kernel_rfl) (by kernel_rfl) (by exact fun _ _ _ h => h) (Or.inl ⟨by rfl, ?_⟩) (by assumption) ?_); rotate_left; focus (intro wS hSw; (try dsimp only at hSw); go_simp; first | done | with_reducible rfl); try simp only [Act.put, List.setIfInBounds_toArray, List.set_cons_zero, List.set_cons_succ])
        refine wpAnyH_ready (rs := [17, 21]) (by kernel_rfl) (by simp) ?_
        refine AllReadyH.cons (by (simp only [List.getElem?_toArray, List.getElem?_cons_succ, List.getElem?_cons_zero]); rfl) (fun K hK => ?_) (AllReadyH.cons (by (simp only [List.getElem?_toArray, List.getElem?_cons_succ, List.getElem?_cons_zero]); rfl) (fun K hK => ?_) AllReadyH.nil)
        · skip
          go_simp
          go_fit (NX.out _ (HX6.out.tags HOK1.out))
          rintro e W7 ⟨ft', c', rfl, hr7, hg7, hB7⟩
          have HX7 := Lib.hid (HX6.out.step hB7)
          have HB7 := Lib.hid (HB6.out.trans (hB7.mono HB6.out.size))
          have HR7 := Lib.hid hr7
          have HG7 : Hid (W5.heap.size ≤ ft') := Lib.hid (Nat.le_trans HB6.out.size hg7)
          go_wp2_with fail
          refine hK.out _ _ ⟨cell_at HX7.out.blk 0, cell_at HX7.out.blk 1, cell_at HX7.out.blk 2, cell_at HX7.out.blk 3, by rw [HWT.out]; exact HX7.out.w.cell HK.out⟩ (fun hHeld => ?_)
          clear hK K hB7 hr7 hg7
          try simp only [Act.put, List.setIfInBounds_toArray, List.set_cons_zero, List.set_cons_succ]
          ((refine wpAnyH_take (i := 18) (v := ?_) (by (simp only [List.getElem?_toArray, List.getElem?_cons_succ, List.getElem?_cons_zero]); rfl) (by kernel_rfl) (by kernel_rfl) (by kernel_rfl) (by exact fun _ _ _ h => h) (Or.inl ⟨by rfl, ?_⟩) (by assumption) ?_); rotate_left; focus (intro wS hSw; (try dsimp only at hSw); go_simp; first | done | with_reducible rfl); try simp only [Act.put, List.setIfInBounds_toArray, List.set_cons_zero, List.set_cons_succ])
          ((refine wpAnyH_take (i := 19) (v := ?_) (by (simp only [List.getElem?_toArray, List.getElem?_cons_succ, List.getElem?_cons_zero]); rfl) (by kernel_rfl) (by kernel_rfl) (by kernel_rfl) (by exact fun _ _ _ h => h) (Or.inl ⟨by rfl, ?_⟩) (by assumption) ?_); rotate_left; focus (intro wS hSw; (try dsimp only at hSw); go_simp; first | done | with_reducible rfl); try simp only [Act.put, List.setIfInBounds_toArray, List.set_cons_zero, List.set_cons_succ])
          ((refine wpAnyH_take (i := 20) (v := ?_) (by (simp only [List.getElem?_toArray, List.getElem?_cons_succ, List.getElem?_cons_zero]); rfl) (by kernel_rfl) (by kernel_rfl) (by kernel_rfl) (by exact fun _ _ _ h => h) (Or.inl ⟨by rfl, ?_⟩) (by assumption) ?_); rotate_left; focus (intro wS hSw; (try dsimp only at hSw); go_simp; first | done | with_reducible rfl); try simp only [Act.put, List.setIfInBounds_toArray, List.set_cons_zero, List.set_cons_succ])
          refine wpAnyH_ready (rs := [21]) (by kernel_rfl) (by simp) ?_
          refine AllReadyH.cons (by (simp only [List.getElem?_toArray, List.getElem?_cons_succ, List.getElem?_cons_zero]); rfl) (fun K hK => ?_) AllReadyH.nil
          go_simp
          obtain ⟨NB, hNB⟩ : ∃ N, N = W7.heap.size := ⟨_, rfl⟩
          obtain ⟨W8, hW9⟩ : ∃ W, W = (W7.alloc (.cells #[.int .i64 0, .slice none 0 0] 39)) := ⟨_, rfl⟩
          have k9 : Blk W8 NB #[.int .i64 0, .slice none 0 0] 39 := by rw [hW9, hNB]; exact blk_new W7 _ _
          have hB9 : Below W7.heap.size W7 W8 := by rw [hW9]; exact alloc_b W7 _
          have HX8 := Lib.hid (HX7.out.step hB9)
          have HB8 := Lib.hid (HB7.out.trans (hB9.mono HB7.out.size))
          have HK8 := Lib.hid k9
          have HNB : Hid (W5.heap.size ≤ NB) := Lib.hid (by rw [hNB]; exact HB7.out.size)
          have HR8 := Lib.hid (HR7.out.congr (w' := W8) fun q e => by obtain rfl := Option.some.inj e; exact hB9.block _ HR7.out.lt)
          rw [← hNB, ← hW9]
          refine hK _ _ ⟨cell_at HX8.out.blk 0, cell_at HX8.out.blk 1, cell_at HX8.out.blk 2, cell_at HX8.out.blk 3, by rw [HWT.out]; exact HX8.out.w.cell HK.out⟩ (fun hHeld => ?_)
          clear hK K k9 hB9 hNB hW9
          try simp only [Act.put, List.setIfInBounds_toArray, List.set_cons_zero, List.set_cons_succ]
          refine wpAnyH_ready (rs := [22]) (by kernel_rfl) (by simp) ?_
          refine AllReadyH.cons (by (simp only [List.getElem?_toArray, List.getElem?_cons_succ, List.getElem?_cons_zero]); rfl) (fun K hK => ?_) AllReadyH.nil
          have k0 : W8.cell? ⟨NB, 0, none⟩ = some (.int .i64 0) := cell_at HK8.out 0
          have k1 : W8.cell? ⟨NB, 1, none⟩ = some (.slice none 0 0) := cell_at HK8.out 1
          have kz : ∀ j, W8.frozen? ⟨NB, j, none⟩ = false := fun j => free_at HK8.out j
          have kl : NB < W8.heap.size := HK8.out.lt
          generalize hW10' : (W8.setCell ⟨NB, 0, none⟩ (.int .i64 s1.V)).setCell ⟨NB, 1, none⟩ (.slice (some ⟨ft', 0, none⟩) n c') = W9
          have hW10 := hW10'.symm
          clear hW10'
          have hf10 : Fr [NB] W8 W9 := by rw [hW10]; exact ((Fr.refl _ _).setCell _ (.inl (by simp)) _).setCell _ (.inl (by simp)) _
          have HK9 := Lib.hid (show Blk W9 NB #[.int .i64 s1.V, .slice (some ⟨ft', 0, none⟩) n c'] 39 by rw [hW10]; exact (HK8.out.set 0 _).set 1 _)
          have HX9 := Lib.hid (HX8.out.other hf10 HK8.out (by decide) (by decide) (by decide) (by decide))
          have HB9 := Lib.hid (HB8.out.trans (hf10.below HB8.out.size (by simp; exact HNB.out)))
          have HR9 := Lib.hid (HR8.out.congr (w' := W9) fun q e => by obtain rfl := Option.some.inj e; exact hf10.block _ HR8.out.lt (by simpa using fun e => row_blk_ne HR8.out HK8.out (by decide) e.symm))
          go_simp
          rw [← hW10]
          refine hK _ _ ⟨cell_at HX9.out.blk 0, cell_at HX9.out.blk 1, cell_at HX9.out.blk 2, cell_at HX9.out.blk 3, by rw [HWT.out]; exact HX9.out.w.cell HK.out⟩ (fun hHeld => ?_)
          clear hK K hW10 k0 k1 kz kl
          try simp only [Act.put, List.setIfInBounds_toArray, List.set_cons_zero, List.set_cons_succ]
          ((refine wpAnyH_take (i := 23) (v := ?_) (by (simp only [List.getElem?_toArray, List.getElem?_cons_succ, List.getElem?_cons_zero]); rfl) (by kernel_rfl) (by kernel_rfl) (by kernel_rfl) (by exact fun _ _ _ h => h) (Or.inl ⟨by rfl, ?_⟩) (by assumption) ?_); rotate_left; focus (intro wS hSw; (try dsimp only at hSw); go_simp; first | done | with_reducible rfl); try simp only [Act.put, List.setIfInBounds_toArray, List.set_cons_zero, List.set_cons_succ])
          refine wpAnyH_done (by kernel_rfl) ?_ _
          try simp only [Act.put, List.setIfInBounds_toArray, List.set_cons_zero, List.set_cons_succ]
          go_wp2_with fail
          go_meet
          exact ⟨_, NB, ft', c', rfl, rfl, ⟨HK9.out, HR9.out, HB9.out, HG7.out⟩⟩
        · skip
          go_simp
          obtain ⟨NB, hNB⟩ : ∃ N, N = W5.heap.size := ⟨_, rfl⟩
          obtain ⟨W7, hW9⟩ : ∃ W, W = (W5.alloc (.cells #[.int .i64 0, .slice none 0 0] 39)).drew := ⟨_, rfl⟩
          have k9 : Blk W7 NB #[.int .i64 0, .slice none 0 0] 39 := by rw [hW9, hNB]; exact blk_new W5 _ _
          have hB9 : Below W5.drew.heap.size W5.drew W7 := by rw [hW9]; exact alloc_b W5.drew _
          have HX7 := Lib.hid (HX6.out.step hB9)
          have HB7 := Lib.hid (HB6.out.trans (hB9.mono HB6.out.size))
          have HK7 := Lib.hid k9
          have HNB : Hid (W5.heap.size ≤ NB) := Lib.hid (by rw [hNB]; exact HB6.out.size)
          rw [← hNB, ← hW9]
          refine hK _ _ ⟨cell_at HX7.out.blk 0, cell_at HX7.out.blk 1, cell_at HX7.out.blk 2, cell_at HX7.out.blk 3, by rw [HWT.out]; exact HX7.out.w.cell HK.out⟩ (fun hHeld => ?_)
          clear hK K k9 hB9 hNB hW9
          try simp only [Act.put, List.setIfInBounds_toArray, List.set_cons_zero, List.set_cons_succ]
          refine wpAnyH_ready (rs := [17]) (by kernel_rfl) (by simp) ?_
          refine AllReadyH.cons (by (simp only [List.getElem?_toArray, List.getElem?_cons_succ, List.getElem?_cons_zero]); rfl) (fun K hK => ?_) AllReadyH.nil
          go_simp
          go_fit (NX.out _ (HX7.out.tags HOK1.out))
          rintro e W8 ⟨ft', c', rfl, hr7, hg7, hB7⟩
          have HX8 := Lib.hid (HX7.out.step hB7)
          have HB8 := Lib.hid (HB7.out.trans (hB7.mono HB7.out.size))
          have HR8 := Lib.hid hr7
          have HG7 : Hid (W5.heap.size ≤ ft') := Lib.hid (Nat.le_trans HB7.out.size hg7)
          have HK8 := Lib.hid (HK7.out.step hB7)
          go_wp2_with fail
          refine hK.out _ _ ⟨cell_at HX8.out.blk 0, cell_at HX8.out.blk 1, cell_at HX8.out.blk 2, cell_at HX8.out.blk 3, by rw [HWT.out]; exact HX8.out.w.cell HK.out⟩ (fun hHeld => ?_)
          clear hK K hB7 hr7 hg7
          try simp only [Act.put, List.setIfInBounds_toArray, List.set_cons_zero, List.set_cons_succ]
          ((refine wpAnyH_take (i := 18) (v := ?_) (by (simp only [List.getElem?_toArray, List.getElem?_cons_succ, List.getElem?_cons_zero]); rfl) (by kernel_rfl) (by kernel_rfl) (by kernel_rfl) (by exact fun _ _ _ h => h) (Or.inl ⟨by rfl, ?_⟩) (by assumption) ?_); rotate_left; focus (intro wS hSw; (try dsimp only at hSw); go_simp; first | done | with_reducible rfl); try simp only [Act.put, List.setIfInBounds_toArray, List.set_cons_zero, List.set_cons_succ])
          ((refine wpAnyH_take (i := 19) (v := ?_) (by (simp only [List.getElem?_toArray, List.getElem?_cons_succ, List.getElem?_cons_zero]); rfl) (by kernel_rfl) (by kernel_rfl) (by kernel_rfl) (by exact fun _ _ _ h => h) (Or.inl ⟨by rfl, ?_⟩) (by assumption) ?_); rotate_left; focus (intro wS hSw; (try dsimp only at hSw); go_simp; first | done | with_reducible rfl); try simp only [Act.put, List.setIfInBounds_toArray, List.set_cons_zero, List.set_cons_succ])
          ((refine wpAnyH_take (i := 20) (v := ?_) (by (simp only [List.getElem?_toArray, List.getElem?_cons_succ, List.getElem?_cons_zero]); rfl) (by kernel_rfl) (by kernel_rfl) (by kernel_rfl) (by exact fun _ _ _ h => h) (Or.inl ⟨by rfl, ?_⟩) (by assumption) ?_); rotate_left; focus (intro wS hSw; (try dsimp only at hSw); go_simp; first | done | with_reducible rfl); try simp only [Act.put, List.setIfInBounds_toArray, List.set_cons_zero, List.set_cons_succ])
          refine wpAnyH_ready (rs := [22]) (by kernel_rfl) (by simp) ?_
          refine AllReadyH.cons (by (simp only [List.getElem?_toArray, List.getElem?_cons_succ, List.getElem?_cons_zero]); rfl) (fun K hK => ?_) AllReadyH.nil
          have k0 : W8.cell? ⟨NB, 0, none⟩ = some (.int .i64 0) := cell_at HK8.out 0
          have k1 : W8.cell? ⟨NB, 1, none⟩ = some (.slice none 0 0) := cell_at HK8.out 1
          have kz : ∀ j, W8.frozen? ⟨NB, j, none⟩ = false := fun j => free_at HK8.out j
          have kl : NB < W8.heap.size := HK8.out.lt
          generalize hW10' : (W8.setCell ⟨NB, 0, none⟩ (.int .i64 s1.V)).setCell ⟨NB, 1, none⟩ (.slice (some ⟨ft', 0, none⟩) n c') = W9
          have hW10 := hW10'.symm
          clear hW10'
          have hf10 : Fr [NB] W8 W9 := by rw [hW10]; exact ((Fr.refl _ _).setCell _ (.inl (by simp)) _).setCell _ (.inl (by simp)) _
          have HK9 := Lib.hid (show Blk W9 NB #[.int .i64 s1.V, .slice (some ⟨ft', 0, none⟩) n c'] 39 by rw [hW10]; exact (HK8.out.set 0 _).set 1 _)
          have HX9 := Lib.hid (HX8.out.other hf10 HK8.out (by decide) (by decide) (by decide) (by decide))
          have HB9 := Lib.hid (HB8.out.trans (hf10.below HB8.out.size (by simp; exact HNB.out)))
          have HR9 := Lib.hid (HR8.out.congr (w' := W9) fun q e => by obtain rfl := Option.some.inj e; exact hf10.block _ HR8.out.lt (by simpa using fun e => row_blk_ne HR8.out HK8.out (by decide) e.symm))
          go_simp
          rw [← hW10]
          refine hK _ _ ⟨cell_at HX9.out.blk 0, cell_at HX9.out.blk 1, cell_at HX9.out.blk 2, cell_at HX9.out.blk 3, by rw [HWT.out]; exact HX9.out.w.cell HK.out⟩ (fun hHeld => ?_)
          clear hK K hW10 k0 k1 kz kl
          try simp only [Act.put, List.setIfInBounds_toArray, List.set_cons_zero, List.set_cons_succ]
          ((refine wpAnyH_take (i := 23) (v := ?_) (by (simp only [List.getElem?_toArray, List.getElem?_cons_succ, List.getElem?_cons_zero]); rfl) (by kernel_rfl) (by kernel_rfl) (by kernel_rfl) (by exact fun _ _ _ h => h) (Or.inl ⟨by rfl, ?_⟩) (by assumption) ?_); rotate_left; focus (intro wS hSw; (try dsimp only at hSw); go_simp; first | done | with_reducible rfl); try simp only [Act.put, List.setIfInBounds_toArray, List.set_cons_zero, List.set_cons_succ])
          refine wpAnyH_done (by kernel_rfl) ?_ _
          try simp only [Act.put, List.setIfInBounds_toArray, List.set_cons_zero, List.set_cons_succ]
          go_wp2_with fail
          go_meet
          exact ⟨_, NB, ft', c', rfl, rfl, ⟨HK9.out, HR9.out, HB9.out, HG7.out⟩⟩
      case rest =>
        obtain ⟨W6, NB, ft6, c6, rfl, rfl, h6⟩ := hcut
        have HX6 := Lib.hid (HX5.out.step h6.b)
        have f1 : W6.cell? ⟨NB, 0, none⟩ = some (.int .i64 s1.V) := cell_at h6.tb 0
        have f2 : W6.cell? ⟨NB, 1, none⟩ = some (.slice (some ⟨ft6, 0, none⟩) n c6) := cell_at h6.tb 1
        have g2 : W6.cell? ⟨g, 2, none⟩ = some (.int .i64 s1.V) := cell_at HX6.out.blk 2
        have g3 : W6.cell? ⟨g, 3, none⟩ = some (.slice (some ⟨FT, 0, none⟩) n CT) := cell_at HX6.out.blk 3
        have gz : ∀ j, W6.frozen? ⟨g, j, none⟩ = false := fun j => free_at HX6.out.blk j
        have gl : g < W6.heap.size := HX6.out.blk.lt
        obtain ⟨W7, hW7⟩ : ∃ W, W = (W6.setCell ⟨g, 2, none⟩ (.int .i64 s1.V)).setCell ⟨g, 3, none⟩ (.slice (some ⟨ft6, 0, none⟩) n c6) := ⟨_, rfl⟩
        obtain ⟨hx7, hf7⟩ := HX6.out.vt h6.row (Nat.le_trans HX5.out.size h6.ge) hW7
        have HX7 := Lib.hid hx7
        have HF7 := Lib.hid ((HF5.out.trans (Fr.of_below h6.b) (by simp)).trans hf7 (by simp))
        have HFT7 : Hid (ft6 = ft ∨ w.heap.size ≤ ft6) := Lib.hid (.inr (Nat.le_trans HF5.out.size h6.ge))
        clear h6 hx7 hf7
        go_upto_region 13 with fail
        rw [← hW7]
        clear hW7 f1 f2 g2 g3 gz gl HX6
        rw [HWT.out] at HX7
        obtain ⟨W8, hW8⟩ : ∃ W, W = W7.setCell ⟨fz, k, none⟩ (.int .i64 Z) := ⟨_, rfl⟩
        obtain ⟨W9, hW9⟩ : ∃ W, W = W8.setCell ⟨fv, k, none⟩ (.bool false) := ⟨_, rfl⟩
        obtain ⟨hx8, hx9, hf8, hf9⟩ := HX7.out.end_ HK.out Z false hW8 hW9
        have y4 : W7.cell? ⟨g, 4, none⟩ = some (.slice (some ⟨fz, 0, none⟩) n cz) := cell_at HX7.out.blk 4
        have yz := HX7.out.z.cell HK.out
        have yf := HX7.out.z.free
        have yl := HX7.out.z.lt
        have x5 : W8.cell? ⟨g, 5, none⟩ = some (.slice (some ⟨fv, 0, none⟩) n cv) := cell_at hx8.blk 5
        have xv := hx8.sv.cell HK.out
        have xf := hx8.sv.free
        have xl := hx8.sv.lt
        have HX9 := Lib.hid (show RfAt W9 M ⟨g, fw, fz, fv, n, cw, cz, cv⟩ ft6 c6 wt al (hearN wt al (hsz E) (k + 1) s) by rw [HE1.out]; exact hx9)
        have HF9 := Lib.hid ((HF7.out.trans hf8 (by simp)).trans hf9 (by simp))
        simp only at yz yf yl xv xf xl
        clear hx8 hx9 hf8 hf9
        go_upto_region 14 with fail
        rw [← hW8]
        clear hW8 y4 yz yf yl
        go_upto_region 2 with fail
        rw [← hW9]
        clear hW9 x5 xv xf xl
        go_wp2_with fail
        go_roundw
        case rel => exact ⟨k + 1, _, _, by have := HLT.out; omega, by go_num, HX9.out, HF9.out, HFT7.out⟩
        case measure => (have h8 := HLT.out; first | (simp [intOf]; done) | (simp [intOf]; omega))
    by_cases hzm : ZK = Z
    · have hs : s1.sv k = false := HSV.out.symm
      have hnew : hNew k Z s1 = false := by unfold hNew; rw [hs, HZK.out, hzm]; simp
      have HE1 := Lib.hid (HFN.out T1 (by rw [if_neg (by rw [hnew]; simp)]))
      have d2 : (ZK != Z) = false := by simp [hzm]
      clear hnew hs hlt hz0 hzm
      go_upto_region 13 with fail
      clear e4 e5 z0 v0
      obtain ⟨W8, hW8⟩ : ∃ W, W = W5.setCell ⟨fz, k, none⟩ (.int .i64 Z) := ⟨_, rfl⟩
      obtain ⟨W9, hW9⟩ : ∃ W, W = W8.setCell ⟨fv, k, none⟩ (.bool false) := ⟨_, rfl⟩
      obtain ⟨hx8, hx9, hf8, hf9⟩ := HX5.out.end_ HK.out Z false hW8 hW9
      have y4 : W5.cell? ⟨g, 4, none⟩ = some (.slice (some ⟨fz, 0, none⟩) n cz) := cell_at HX5.out.blk 4
      have yz := HX5.out.z.cell HK.out
      have yf := HX5.out.z.free
      have yl := HX5.out.z.lt
      have x5 : W8.cell? ⟨g, 5, none⟩ = some (.slice (some ⟨fv, 0, none⟩) n cv) := cell_at hx8.blk 5
      have xv := hx8.sv.cell HK.out
      have xf := hx8.sv.free
      have xl := hx8.sv.lt
      have HX9 := Lib.hid (show RfAt W9 M ⟨g, fw, fz, fv, n, cw, cz, cv⟩ FT CT wt al (hearN wt al (hsz E) (k + 1) s) by rw [HE1.out]; exact hx9)
      have HF9 := Lib.hid ((HF5.out.trans hf8 (by simp)).trans hf9 (by simp))
      simp only at yz yf yl xv xf xl
      clear hx8 hx9 hf8 hf9
      go_upto_region 14 with fail
      rw [← hW8]
      clear hW8 y4 yz yf yl
      go_upto_region 2 with fail
      rw [← hW9]
      clear hW9 x5 xv xf xl
      go_wp2_with fail
      go_roundw
      case rel => exact ⟨k + 1, _, _, by have := HLT.out; omega, by go_num, HX9.out, HF9.out, HFT.out⟩
      case measure => (have h8 := HLT.out; first | (simp [intOf]; done) | (simp [intOf]; omega))
    have hs : s1.sv k = false := HSV.out.symm
    have hnew : hNew k Z s1 = true := by unfold hNew; rw [hs, HZK.out]; simp [hz0, hzm]
    have hA : hAt k Z s1 = max (T1 k).f s1.V := by unfold hAt; rw [if_neg (by simp [hs]), HT1.out]
    have HE1 := Lib.hid (HFN.out (updT T1 k ⟨max (T1 k).f s1.V, max (T1 k).f s1.V + costS Z (wt k) al⟩) (by rw [if_pos hnew, hA]))
    have hg := HGD.out hnew
    rw [hA] at hg
    have NX := Lib.hid (fun W hs => rwake_ok s1.V FT n CT T1 k Z (wt k) al W hs HN8.out hlt hg)
    rw [← HWT.out] at NX
    have d2 : (ZK != Z) = true := by simp [hzm]
    clear hnew hA hg hs hlt hz0 hzm
    go_upto_region 11 with fail
    go_cut [8, 9] (fun v6 v7 W => ∃ (W' : World) (NB ft' c' : Nat), W' = W ∧ v6 = .pointer (some ⟨NB, 0, none⟩) ∧ Bx W5 W' NB ft' n c' s1.V (updT T1 k ⟨max (T1 k).f s1.V, max (T1 k).f s1.V + costS Z WT al⟩))
    case first =>
      refine wp_region_held_drew (S := fun X => X.cell? ⟨g, 0, none⟩ = some (.slice (some ⟨fw, 0, none⟩) n cw) ∧ X.cell? ⟨g, 1, none⟩ = some (.int .i64 al) ∧ X.cell? ⟨g, 2, none⟩ = some (.int .i64 s1.V) ∧ X.cell? ⟨g, 3, none⟩ = some (.slice (some ⟨FT, 0, none⟩) n CT) ∧ X.cell? ⟨fw, k, none⟩ = some (.int .i64 WT)) (by kernel_rfl) ⟨cell_at HX5.out.blk 0, cell_at HX5.out.blk 1, cell_at HX5.out.blk 2, cell_at HX5.out.blk 3, by rw [HWT.out]; exact HX5.out.w.cell HK.out⟩ (fun hHeld => ?_)
      try simp only [Act.put, List.setIfInBounds_toArray, List.set_cons_zero, List.set_cons_succ]
      have Bz := belowN (Below.refl W5.heap.size W5) 1
      have HX6 := Lib.hid (show RfAt W5.drew M ⟨g, fw, fz, fv, n, cw, cz, cv⟩ FT CT wt al ⟨s1.V, T1, s1.z, s1.sv⟩ from HX5.out.step Bz)
      have HB6 : Hid (Below W5.heap.size W5 W5.drew) := Lib.hid Bz
      clear Bz
      ((refine wpAnyH_take (i := 0) (v := ?_) (by (simp only [List.getElem?_toArray, List.getElem?_cons_succ, List.getElem?_cons_zero]); rfl) (by kernel_rfl) (by kernel_rfl) (by kernel_rfl) (by exact fun _ _ _ h => h) (Or.inl ⟨by rfl, ?_⟩) (by assumption) ?_); rotate_left; focus (intro wS hSw; (try dsimp only at hSw); go_simp; first | done | with_reducible rfl); try simp only [Act.put, List.setIfInBounds_toArray, List.set_cons_zero, List.set_cons_succ])
      ((refine wpAnyH_take (i := 1) (v := ?_) (by (simp only [List.getElem?_toArray, List.getElem?_cons_succ, List.getElem?_cons_zero]); rfl) (by kernel_rfl) (by kernel_rfl) (by kernel_rfl) (by exact fun _ _ _ h => h) (Or.inl ⟨by rfl, ?_⟩) (by assumption) ?_); rotate_left; focus (intro wS hSw; (try dsimp only at hSw); go_simp; first | done | with_reducible rfl); try simp only [Act.put, List.setIfInBounds_toArray, List.set_cons_zero, List.set_cons_succ])
      ((refine wpAnyH_take (i := 2) (v := ?_) (by (simp only [List.getElem?_toArray, List.getElem?_cons_succ, List.getElem?_cons_zero]); rfl) (by kernel_rfl) (by kernel_rfl) (by kernel_rfl) (by exact fun _ _ _ h => h) (Or.inl ⟨by rfl, ?_⟩) (by assumption) ?_); rotate_left; focus (intro wS hSw; (try dsimp only at hSw); go_simp; first | done | with_reducible rfl); try simp only [Act.put, List.setIfInBounds_toArray, List.set_cons_zero, List.set_cons_succ])
      ((refine wpAnyH_take (i := 3) (v := ?_) (by (simp only [List.getElem?_toArray, List.getElem?_cons_succ, List.getElem?_cons_zero]); rfl) (by kernel_rfl) (by kernel_rfl) (by kernel_rfl) (by exact fun _ _ _ h => h) (Or.inl ⟨by rfl, ?_⟩) (by assumption) ?_); rotate_left; focus (intro wS hSw; (try dsimp only at hSw); go_simp; first | done | with_reducible rfl); try simp only [Act.put, List.setIfInBounds_toArray, List.set_cons_zero, List.set_cons_succ])
      ((refine wpAnyH_take (i := 4) (v := ?_) (by (simp only [List.getElem?_toArray, List.getElem?_cons_succ, List.getElem?_cons_zero]); rfl) (by kernel_rfl) (by kernel_rfl) (by kernel_rfl) (by exact fun _ _ _ h => h) (Or.inl ⟨by rfl, ?_⟩) (by assumption) ?_); rotate_left; focus (intro wS hSw; (try dsimp only at hSw); go_simp; first | done | with_reducible rfl); try simp only [Act.put, List.setIfInBounds_toArray, List.set_cons_zero, List.set_cons_succ])
      ((refine wpAnyH_take (i := 5) (v := ?_) (by (simp only [List.getElem?_toArray, List.getElem?_cons_succ, List.getElem?_cons_zero]); rfl) (by kernel_rfl) (by kernel_rfl) (by kernel_rfl) (by exact fun _ _ _ h => h) (Or.inl ⟨by rfl, ?_⟩) (by assumption) ?_); rotate_left; focus (intro wS hSw; (try dsimp only at hSw); go_simp; first | done | with_reducible rfl); try simp only [Act.put, List.setIfInBounds_toArray, List.set_cons_zero, List.set_cons_succ])
      ((refine wpAnyH_take (i := 6) (v := ?_) (by (simp only [List.getElem?_toArray, List.getElem?_cons_succ, List.getElem?_cons_zero]); rfl) (by kernel_rfl) (by kernel_rfl) (by kernel_rfl) (by exact fun _ _ _ h => h) (Or.inl ⟨by rfl, ?_⟩) (by assumption) ?_); rotate_left; focus (intro wS hSw; (try dsimp only at hSw); go_simp; first | done | with_reducible rfl); try simp only [Act.put, List.setIfInBounds_toArray, List.set_cons_zero, List.set_cons_succ])
      ((refine wpAnyH_take (i := 7) (v := ?_) (by (simp only [List.getElem?_toArray, List.getElem?_cons_succ, List.getElem?_cons_zero]); rfl) (by kernel_rfl) (by kernel_rfl) (by kernel_rfl) (by exact fun _ _ _ h => h) (Or.inl ⟨by rfl, ?_⟩) (by assumption) ?_); rotate_left; focus (intro wS hSw; (try dsimp only at hSw); go_simp; first | done | with_reducible rfl); try simp only [Act.put, List.setIfInBounds_toArray, List.set_cons_zero, List.set_cons_succ])
      ((refine wpAnyH_take (i := 8) (v := ?_) (by (simp only [List.getElem?_toArray, List.getElem?_cons_succ, List.getElem?_cons_zero]); rfl) (by kernel_rfl) (by kernel_rfl) (by kernel_rfl) (by exact fun _ _ _ h => h) (Or.inl ⟨by rfl, ?_⟩) (by assumption) ?_); rotate_left; focus (intro wS hSw; (try dsimp only at hSw); go_simp; first | done | with_reducible rfl); try simp only [Act.put, List.setIfInBounds_toArray, List.set_cons_zero, List.set_cons_succ])
      ((refine wpAnyH_take (i := 9) (v := ?_) (by (simp only [List.getElem?_toArray, List.getElem?_cons_succ, List.getElem?_cons_zero]); rfl) (by kernel_rfl) (by kernel_rfl) (by kernel_rfl) (by exact fun _ _ _ h => h) (Or.inl ⟨by rfl, ?_⟩) (by assumption) ?_); rotate_left; focus (intro wS hSw; (try dsimp only at hSw); go_simp; first | done | with_reducible rfl); try simp only [Act.put, List.setIfInBounds_toArray, List.set_cons_zero, List.set_cons_succ])
      ((refine wpAnyH_take (i := 10) (v := ?_) (by (simp only [List.getElem?_toArray, List.getElem?_cons_succ, List.getElem?_cons_zero]); rfl) (by kernel_rfl) (by kernel_rfl) (by kernel_rfl) (by exact fun _ _ _ h => h) (Or.inl ⟨by rfl, ?_⟩) (by assumption) ?_); rotate_left; focus (intro wS hSw; (try dsimp only at hSw); go_simp; first | done | with_reducible rfl); try simp only [Act.put, List.setIfInBounds_toArray, List.set_cons_zero, List.set_cons_succ])
      ((refine wpAnyH_take (i := 11) (v := ?_) (by (simp only [List.getElem?_toArray, List.getElem?_cons_succ, List.getElem?_cons_zero]); rfl) (by kernel_rfl) (by kernel_rfl) (by kernel_rfl) (by exact fun _ _ _ h => h) (Or.inl ⟨by rfl, ?_⟩) (by assumption) ?_); rotate_left; focus (intro wS hSw; (try dsimp only at hSw); go_simp; first | done | with_reducible rfl); try simp only [Act.put, List.setIfInBounds_toArray, List.set_cons_zero, List.set_cons_succ])
      ((refine wpAnyH_take (i := 12) (v := ?_) (by (simp only [List.getElem?_toArray, List.getElem?_cons_succ, List.getElem?_cons_zero]); rfl) (by kernel_rfl) (by kernel_rfl) (by kernel_rfl) (by exact fun _ _ _ h => h) (Or.inl ⟨by rfl, ?_⟩) (by assumption) ?_); rotate_left; focus (intro wS hSw; (try dsimp only at hSw); go_simp; first | done | with_reducible rfl); try simp only [Act.put, List.setIfInBounds_toArray, List.set_cons_zero, List.set_cons_succ])
      ((refine wpAnyH_take (i := 13) (v := ?_) (by (simp only [List.getElem?_toArray, List.getElem?_cons_succ, List.getElem?_cons_zero]); rfl) (by kernel_rfl) (by kernel_rfl) (by kernel_rfl) (by exact fun _ _ _ h => h) (Or.inl ⟨by rfl, ?_⟩) (by assumption) ?_); rotate_left; focus (intro wS hSw; (try dsimp only at hSw); go_simp; first | done | with_reducible rfl); try simp only [Act.put, List.setIfInBounds_toArray, List.set_cons_zero, List.set_cons_succ])
      ((refine wpAnyH_take (i := 14) (v := ?_) (by (simp only [List.getElem?_toArray, List.getElem?_cons_succ, List.getElem?_cons_zero]); rfl) (by kernel_rfl) (by kernel_rfl) (by kernel_rfl) (by exact fun _ _ _ h => h) (Or.inl ⟨by rfl, ?_⟩) (by assumption) ?_); rotate_left; focus (intro wS hSw; (try dsimp only at hSw); go_simp; first | done | with_reducible rfl); try simp only [Act.put, List.setIfInBounds_toArray, List.set_cons_zero, List.set_cons_succ])
      ((refine wpAnyH_take (i := 15) (v := ?_) (by (simp only [List.getElem?_toArray, List.getElem?_cons_succ, List.getElem?_cons_zero]); rfl) (by kernel_rfl) (by kernel_rfl) (by kernel_rfl) (by exact fun _ _ _ h => h) (Or.inl ⟨by rfl, ?_⟩) (by assumption) ?_); rotate_left; focus (intro wS hSw; (try dsimp only at hSw); go_simp; first | done | with_reducible rfl); try simp only [Act.put, List.setIfInBounds_toArray, List.set_cons_zero, List.set_cons_succ])
      ((refine wpAnyH_take (i := 16) (v := ?_) (by (simp only [List.getElem?_toArray, List.getElem?_cons_succ, List.getElem?_cons_zero]); rfl) (by kernel_rfl) (by kernel_rfl) (by kernel_rfl) (by exact fun _ _ _ h => h) (Or.inl ⟨by rfl, ?_⟩) (by assumption) ?_); rotate_left; focus (intro wS hSw; (try dsimp only at hSw); go_simp; first | done | with_reducible rfl); try simp only [Act.put, List.setIfInBounds_toArray, List.set_cons_zero, List.set_cons_succ])
      refine wpAnyH_ready (rs := [17, 21]) (by kernel_rfl) (by simp) ?_
      refine AllReadyH.cons (by (simp only [List.getElem?_toArray, List.getElem?_cons_succ, List.getElem?_cons_zero]); rfl) (fun K hK => ?_) (AllReadyH.cons (by (simp only [List.getElem?_toArray, List.getElem?_cons_succ, List.getElem?_cons_zero]); rfl) (fun K hK => ?_) AllReadyH.nil)
      · skip
        go_simp
        go_fit (NX.out _ (HX6.out.tags HOK1.out))
        rintro e W7 ⟨ft', c', rfl, hr7, hg7, hB7⟩
        have HX7 := Lib.hid (HX6.out.step hB7)
        have HB7 := Lib.hid (HB6.out.trans (hB7.mono HB6.out.size))
        have HR7 := Lib.hid hr7
        have HG7 : Hid (W5.heap.size ≤ ft') := Lib.hid (Nat.le_trans HB6.out.size hg7)
        go_wp2_with fail
        refine hK.out _ _ ⟨cell_at HX7.out.blk 0, cell_at HX7.out.blk 1, cell_at HX7.out.blk 2, cell_at HX7.out.blk 3, by rw [HWT.out]; exact HX7.out.w.cell HK.out⟩ (fun hHeld => ?_)
        clear hK K hB7 hr7 hg7
        try simp only [Act.put, List.setIfInBounds_toArray, List.set_cons_zero, List.set_cons_succ]
        ((refine wpAnyH_take (i := 18) (v := ?_) (by (simp only [List.getElem?_toArray, List.getElem?_cons_succ, List.getElem?_cons_zero]); rfl) (by kernel_rfl) (by kernel_rfl) (by kernel_rfl) (by exact fun _ _ _ h => h) (Or.inl ⟨by rfl, ?_⟩) (by assumption) ?_); rotate_left; focus (intro wS hSw; (try dsimp only at hSw); go_simp; first | done | with_reducible rfl); try simp only [Act.put, List.setIfInBounds_toArray, List.set_cons_zero, List.set_cons_succ])
        ((refine wpAnyH_take (i := 19) (v := ?_) (by (simp only [List.getElem?_toArray, List.getElem?_cons_succ, List.getElem?_cons_zero]); rfl) (by kernel_rfl) (by kernel_rfl) (by kernel_rfl) (by exact fun _ _ _ h => h) (Or.inl ⟨by rfl, ?_⟩) (by assumption) ?_); rotate_left; focus (intro wS hSw; (try dsimp only at hSw); go_simp; first | done | with_reducible rfl); try simp only [Act.put, List.setIfInBounds_toArray, List.set_cons_zero, List.set_cons_succ])
        ((refine wpAnyH_take (i := 20) (v := ?_) (by (simp only [List.getElem?_toArray, List.getElem?_cons_succ, List.getElem?_cons_zero]); rfl) (by kernel_rfl) (by kernel_rfl) (by kernel_rfl) (by exact fun _ _ _ h => h) (Or.inl ⟨by rfl, ?_⟩) (by assumption) ?_); rotate_left; focus (intro wS hSw; (try dsimp only at hSw); go_simp; first | done | with_reducible rfl); try simp only [Act.put, List.setIfInBounds_toArray, List.set_cons_zero, List.set_cons_succ])
        refine wpAnyH_ready (rs := [21]) (by kernel_rfl) (by simp) ?_
        refine AllReadyH.cons (by (simp only [List.getElem?_toArray, List.getElem?_cons_succ, List.getElem?_cons_zero]); rfl) (fun K hK => ?_) AllReadyH.nil
        go_simp
        obtain ⟨NB, hNB⟩ : ∃ N, N = W7.heap.size := ⟨_, rfl⟩
        obtain ⟨W8, hW9⟩ : ∃ W, W = (W7.alloc (.cells #[.int .i64 0, .slice none 0 0] 39)) := ⟨_, rfl⟩
        have k9 : Blk W8 NB #[.int .i64 0, .slice none 0 0] 39 := by rw [hW9, hNB]; exact blk_new W7 _ _
        have hB9 : Below W7.heap.size W7 W8 := by rw [hW9]; exact alloc_b W7 _
        have HX8 := Lib.hid (HX7.out.step hB9)
        have HB8 := Lib.hid (HB7.out.trans (hB9.mono HB7.out.size))
        have HK8 := Lib.hid k9
        have HNB : Hid (W5.heap.size ≤ NB) := Lib.hid (by rw [hNB]; exact HB7.out.size)
        have HR8 := Lib.hid (HR7.out.congr (w' := W8) fun q e => by obtain rfl := Option.some.inj e; exact hB9.block _ HR7.out.lt)
        rw [← hNB, ← hW9]
        refine hK _ _ ⟨cell_at HX8.out.blk 0, cell_at HX8.out.blk 1, cell_at HX8.out.blk 2, cell_at HX8.out.blk 3, by rw [HWT.out]; exact HX8.out.w.cell HK.out⟩ (fun hHeld => ?_)
        clear hK K k9 hB9 hNB hW9
        try simp only [Act.put, List.setIfInBounds_toArray, List.set_cons_zero, List.set_cons_succ]
        refine wpAnyH_ready (rs := [22]) (by kernel_rfl) (by simp) ?_
        refine AllReadyH.cons (by (simp only [List.getElem?_toArray, List.getElem?_cons_succ, List.getElem?_cons_zero]); rfl) (fun K hK => ?_) AllReadyH.nil
        have k0 : W8.cell? ⟨NB, 0, none⟩ = some (.int .i64 0) := cell_at HK8.out 0
        have k1 : W8.cell? ⟨NB, 1, none⟩ = some (.slice none 0 0) := cell_at HK8.out 1
        have kz : ∀ j, W8.frozen? ⟨NB, j, none⟩ = false := fun j => free_at HK8.out j
        have kl : NB < W8.heap.size := HK8.out.lt
        generalize hW10' : (W8.setCell ⟨NB, 0, none⟩ (.int .i64 s1.V)).setCell ⟨NB, 1, none⟩ (.slice (some ⟨ft', 0, none⟩) n c') = W9
        have hW10 := hW10'.symm
        clear hW10'
        have hf10 : Fr [NB] W8 W9 := by rw [hW10]; exact ((Fr.refl _ _).setCell _ (.inl (by simp)) _).setCell _ (.inl (by simp)) _
        have HK9 := Lib.hid (show Blk W9 NB #[.int .i64 s1.V, .slice (some ⟨ft', 0, none⟩) n c'] 39 by rw [hW10]; exact (HK8.out.set 0 _).set 1 _)
        have HX9 := Lib.hid (HX8.out.other hf10 HK8.out (by decide) (by decide) (by decide) (by decide))
        have HB9 := Lib.hid (HB8.out.trans (hf10.below HB8.out.size (by simp; exact HNB.out)))
        have HR9 := Lib.hid (HR8.out.congr (w' := W9) fun q e => by obtain rfl := Option.some.inj e; exact hf10.block _ HR8.out.lt (by simpa using fun e => row_blk_ne HR8.out HK8.out (by decide) e.symm))
        go_simp
        rw [← hW10]
        refine hK _ _ ⟨cell_at HX9.out.blk 0, cell_at HX9.out.blk 1, cell_at HX9.out.blk 2, cell_at HX9.out.blk 3, by rw [HWT.out]; exact HX9.out.w.cell HK.out⟩ (fun hHeld => ?_)
        clear hK K hW10 k0 k1 kz kl
        try simp only [Act.put, List.setIfInBounds_toArray, List.set_cons_zero, List.set_cons_succ]
        ((refine wpAnyH_take (i := 23) (v := ?_) (by (simp only [List.getElem?_toArray, List.getElem?_cons_succ, List.getElem?_cons_zero]); rfl) (by kernel_rfl) (by kernel_rfl) (by kernel_rfl) (by exact fun _ _ _ h => h) (Or.inl ⟨by rfl, ?_⟩) (by assumption) ?_); rotate_left; focus (intro wS hSw; (try dsimp only at hSw); go_simp; first | done | with_reducible rfl); try simp only [Act.put, List.setIfInBounds_toArray, List.set_cons_zero, List.set_cons_succ])
        refine wpAnyH_done (by kernel_rfl) ?_ _
        try simp only [Act.put, List.setIfInBounds_toArray, List.set_cons_zero, List.set_cons_succ]
        go_wp2_with fail
        go_meet
        exact ⟨_, NB, ft', c', rfl, rfl, ⟨HK9.out, HR9.out, HB9.out, HG7.out⟩⟩
      · skip
        go_simp
        obtain ⟨NB, hNB⟩ : ∃ N, N = W5.heap.size := ⟨_, rfl⟩
        obtain ⟨W7, hW9⟩ : ∃ W, W = (W5.alloc (.cells #[.int .i64 0, .slice none 0 0] 39)).drew := ⟨_, rfl⟩
        have k9 : Blk W7 NB #[.int .i64 0, .slice none 0 0] 39 := by rw [hW9, hNB]; exact blk_new W5 _ _
        have hB9 : Below W5.drew.heap.size W5.drew W7 := by rw [hW9]; exact alloc_b W5.drew _
        have HX7 := Lib.hid (HX6.out.step hB9)
        have HB7 := Lib.hid (HB6.out.trans (hB9.mono HB6.out.size))
        have HK7 := Lib.hid k9
        have HNB : Hid (W5.heap.size ≤ NB) := Lib.hid (by rw [hNB]; exact HB6.out.size)
        rw [← hNB, ← hW9]
        refine hK _ _ ⟨cell_at HX7.out.blk 0, cell_at HX7.out.blk 1, cell_at HX7.out.blk 2, cell_at HX7.out.blk 3, by rw [HWT.out]; exact HX7.out.w.cell HK.out⟩ (fun hHeld => ?_)
        clear hK K k9 hB9 hNB hW9
        try simp only [Act.put, List.setIfInBounds_toArray, List.set_cons_zero, List.set_cons_succ]
        refine wpAnyH_ready (rs := [17]) (by kernel_rfl) (by simp) ?_
        refine AllReadyH.cons (by (simp only [List.getElem?_toArray, List.getElem?_cons_succ, List.getElem?_cons_zero]); rfl) (fun K hK => ?_) AllReadyH.nil
        go_simp
        go_fit (NX.out _ (HX7.out.tags HOK1.out))
        rintro e W8 ⟨ft', c', rfl, hr7, hg7, hB7⟩
        have HX8 := Lib.hid (HX7.out.step hB7)
        have HB8 := Lib.hid (HB7.out.trans (hB7.mono HB7.out.size))
        have HR8 := Lib.hid hr7
        have HG7 : Hid (W5.heap.size ≤ ft') := Lib.hid (Nat.le_trans HB7.out.size hg7)
        have HK8 := Lib.hid (HK7.out.step hB7)
        go_wp2_with fail
        refine hK.out _ _ ⟨cell_at HX8.out.blk 0, cell_at HX8.out.blk 1, cell_at HX8.out.blk 2, cell_at HX8.out.blk 3, by rw [HWT.out]; exact HX8.out.w.cell HK.out⟩ (fun hHeld => ?_)
        clear hK K hB7 hr7 hg7
        try simp only [Act.put, List.setIfInBounds_toArray, List.set_cons_zero, List.set_cons_succ]
        ((refine wpAnyH_take (i := 18) (v := ?_) (by (simp only [List.getElem?_toArray, List.getElem?_cons_succ, List.getElem?_cons_zero]); rfl) (by kernel_rfl) (by kernel_rfl) (by kernel_rfl) (by exact fun _ _ _ h => h) (Or.inl ⟨by rfl, ?_⟩) (by assumption) ?_); rotate_left; focus (intro wS hSw; (try dsimp only at hSw); go_simp; first | done | with_reducible rfl); try simp only [Act.put, List.setIfInBounds_toArray, List.set_cons_zero, List.set_cons_succ])
        ((refine wpAnyH_take (i := 19) (v := ?_) (by (simp only [List.getElem?_toArray, List.getElem?_cons_succ, List.getElem?_cons_zero]); rfl) (by kernel_rfl) (by kernel_rfl) (by kernel_rfl) (by exact fun _ _ _ h => h) (Or.inl ⟨by rfl, ?_⟩) (by assumption) ?_); rotate_left; focus (intro wS hSw; (try dsimp only at hSw); go_simp; first | done | with_reducible rfl); try simp only [Act.put, List.setIfInBounds_toArray, List.set_cons_zero, List.set_cons_succ])
        ((refine wpAnyH_take (i := 20) (v := ?_) (by (simp only [List.getElem?_toArray, List.getElem?_cons_succ, List.getElem?_cons_zero]); rfl) (by kernel_rfl) (by kernel_rfl) (by kernel_rfl) (by exact fun _ _ _ h => h) (Or.inl ⟨by rfl, ?_⟩) (by assumption) ?_); rotate_left; focus (intro wS hSw; (try dsimp only at hSw); go_simp; first | done | with_reducible rfl); try simp only [Act.put, List.setIfInBounds_toArray, List.set_cons_zero, List.set_cons_succ])
        refine wpAnyH_ready (rs := [22]) (by kernel_rfl) (by simp) ?_
        refine AllReadyH.cons (by (simp only [List.getElem?_toArray, List.getElem?_cons_succ, List.getElem?_cons_zero]); rfl) (fun K hK => ?_) AllReadyH.nil
        have k0 : W8.cell? ⟨NB, 0, none⟩ = some (.int .i64 0) := cell_at HK8.out 0
        have k1 : W8.cell? ⟨NB, 1, none⟩ = some (.slice none 0 0) := cell_at HK8.out 1
        have kz : ∀ j, W8.frozen? ⟨NB, j, none⟩ = false := fun j => free_at HK8.out j
        have kl : NB < W8.heap.size := HK8.out.lt
        generalize hW10' : (W8.setCell ⟨NB, 0, none⟩ (.int .i64 s1.V)).setCell ⟨NB, 1, none⟩ (.slice (some ⟨ft', 0, none⟩) n c') = W9
        have hW10 := hW10'.symm
        clear hW10'
        have hf10 : Fr [NB] W8 W9 := by rw [hW10]; exact ((Fr.refl _ _).setCell _ (.inl (by simp)) _).setCell _ (.inl (by simp)) _
        have HK9 := Lib.hid (show Blk W9 NB #[.int .i64 s1.V, .slice (some ⟨ft', 0, none⟩) n c'] 39 by rw [hW10]; exact (HK8.out.set 0 _).set 1 _)
        have HX9 := Lib.hid (HX8.out.other hf10 HK8.out (by decide) (by decide) (by decide) (by decide))
        have HB9 := Lib.hid (HB8.out.trans (hf10.below HB8.out.size (by simp; exact HNB.out)))
        have HR9 := Lib.hid (HR8.out.congr (w' := W9) fun q e => by obtain rfl := Option.some.inj e; exact hf10.block _ HR8.out.lt (by simpa using fun e => row_blk_ne HR8.out HK8.out (by decide) e.symm))
        go_simp
        rw [← hW10]
        refine hK _ _ ⟨cell_at HX9.out.blk 0, cell_at HX9.out.blk 1, cell_at HX9.out.blk 2, cell_at HX9.out.blk 3, by rw [HWT.out]; exact HX9.out.w.cell HK.out⟩ (fun hHeld => ?_)
        clear hK K hW10 k0 k1 kz kl
        try simp only [Act.put, List.setIfInBounds_toArray, List.set_cons_zero, List.set_cons_succ]
        ((refine wpAnyH_take (i := 23) (v := ?_) (by (simp only [List.getElem?_toArray, List.getElem?_cons_succ, List.getElem?_cons_zero]); rfl) (by kernel_rfl) (by kernel_rfl) (by kernel_rfl) (by exact fun _ _ _ h => h) (Or.inl ⟨by rfl, ?_⟩) (by assumption) ?_); rotate_left; focus (intro wS hSw; (try dsimp only at hSw); go_simp; first | done | with_reducible rfl); try simp only [Act.put, List.setIfInBounds_toArray, List.set_cons_zero, List.set_cons_succ])
        refine wpAnyH_done (by kernel_rfl) ?_ _
        try simp only [Act.put, List.setIfInBounds_toArray, List.set_cons_zero, List.set_cons_succ]
        go_wp2_with fail
        go_meet
        exact ⟨_, NB, ft', c', rfl, rfl, ⟨HK9.out, HR9.out, HB9.out, HG7.out⟩⟩
    case rest =>
      obtain ⟨W6, NB, ft6, c6, rfl, rfl, h6⟩ := hcut
      have HX6 := Lib.hid (HX5.out.step h6.b)
      have f1 : W6.cell? ⟨NB, 0, none⟩ = some (.int .i64 s1.V) := cell_at h6.tb 0
      have f2 : W6.cell? ⟨NB, 1, none⟩ = some (.slice (some ⟨ft6, 0, none⟩) n c6) := cell_at h6.tb 1
      have g2 : W6.cell? ⟨g, 2, none⟩ = some (.int .i64 s1.V) := cell_at HX6.out.blk 2
      have g3 : W6.cell? ⟨g, 3, none⟩ = some (.slice (some ⟨FT, 0, none⟩) n CT) := cell_at HX6.out.blk 3
      have gz : ∀ j, W6.frozen? ⟨g, j, none⟩ = false := fun j => free_at HX6.out.blk j
      have gl : g < W6.heap.size := HX6.out.blk.lt
      obtain ⟨W7, hW7⟩ : ∃ W, W = (W6.setCell ⟨g, 2, none⟩ (.int .i64 s1.V)).setCell ⟨g, 3, none⟩ (.slice (some ⟨ft6, 0, none⟩) n c6) := ⟨_, rfl⟩
      obtain ⟨hx7, hf7⟩ := HX6.out.vt h6.row (Nat.le_trans HX5.out.size h6.ge) hW7
      have HX7 := Lib.hid hx7
      have HF7 := Lib.hid ((HF5.out.trans (Fr.of_below h6.b) (by simp)).trans hf7 (by simp))
      have HFT7 : Hid (ft6 = ft ∨ w.heap.size ≤ ft6) := Lib.hid (.inr (Nat.le_trans HF5.out.size h6.ge))
      clear h6 hx7 hf7
      go_upto_region 13 with fail
      rw [← hW7]
      clear hW7 f1 f2 g2 g3 gz gl HX6
      rw [HWT.out] at HX7
      obtain ⟨W8, hW8⟩ : ∃ W, W = W7.setCell ⟨fz, k, none⟩ (.int .i64 Z) := ⟨_, rfl⟩
      obtain ⟨W9, hW9⟩ : ∃ W, W = W8.setCell ⟨fv, k, none⟩ (.bool false) := ⟨_, rfl⟩
      obtain ⟨hx8, hx9, hf8, hf9⟩ := HX7.out.end_ HK.out Z false hW8 hW9
      have y4 : W7.cell? ⟨g, 4, none⟩ = some (.slice (some ⟨fz, 0, none⟩) n cz) := cell_at HX7.out.blk 4
      have yz := HX7.out.z.cell HK.out
      have yf := HX7.out.z.free
      have yl := HX7.out.z.lt
      have x5 : W8.cell? ⟨g, 5, none⟩ = some (.slice (some ⟨fv, 0, none⟩) n cv) := cell_at hx8.blk 5
      have xv := hx8.sv.cell HK.out
      have xf := hx8.sv.free
      have xl := hx8.sv.lt
      have HX9 := Lib.hid (show RfAt W9 M ⟨g, fw, fz, fv, n, cw, cz, cv⟩ ft6 c6 wt al (hearN wt al (hsz E) (k + 1) s) by rw [HE1.out]; exact hx9)
      have HF9 := Lib.hid ((HF7.out.trans hf8 (by simp)).trans hf9 (by simp))
      simp only at yz yf yl xv xf xl
      clear hx8 hx9 hf8 hf9
      go_upto_region 14 with fail
      rw [← hW8]
      clear hW8 y4 yz yf yl
      go_upto_region 2 with fail
      rw [← hW9]
      clear hW9 x5 xv xf xl
      go_wp2_with fail
      go_roundw
      case rel => exact ⟨k + 1, _, _, by have := HLT.out; omega, by go_num, HX9.out, HF9.out, HFT7.out⟩
      case measure => (have h8 := HLT.out; first | (simp [intOf]; done) | (simp [intOf]; omega))
end Go.Proofs.Ytnainlemnkfpkaa
