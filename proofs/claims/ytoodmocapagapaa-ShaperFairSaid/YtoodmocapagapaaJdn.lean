/-
  weirref27.Fair, walked.
-/
import Derived.Test.YtoodmocapagapaaJdm
import Derived.Deep.DeepCutAuto
import Derived.Deep.CutRange
namespace Go.Proofs.Ytoodmocapagapaa
open Go.RowKit
set_option linter.unusedSimpArgs false
set_option linter.unusedVariables false

theorem lag_diff (L : Nat → SentE) (fl V A : Int) (k i : Nat) : lagN L fl V A k - lagN L fl V A i = V * (tog L k - tog L i) - (srv L fl k - srv L fl i) * A := by
  unfold lagN
  rw [Int.mul_sub, Int.sub_mul, Int.mul_comm (srv L fl k) A, Int.mul_comm (srv L fl i) A]
  omega
theorem tog_mono (L : Nat → SentE) (i : Nat) : ∀ k, i ≤ k → tog L i ≤ tog L k
  | 0, h => by obtain rfl : i = 0 := by omega
               exact Int.le_refl _
  | k + 1, h => by
    by_cases e : i = k + 1
    · rw [e]; exact Int.le_refl _
    · have := tog_mono L i k (by omega)
      have := clip_bd (L k).sz
      rw [tog, zS]; omega
theorem srv_mono (L : Nat → SentE) (fl : Int) (i : Nat) : ∀ k, i ≤ k → srv L fl i ≤ srv L fl k
  | 0, h => by obtain rfl : i = 0 := by omega
               exact Int.le_refl _
  | k + 1, h => by
    by_cases e : i = k + 1
    · rw [e]; exact Int.le_refl _
    · have := srv_mono L fl i k (by omega)
      have := clip_bd (L k).sz
      rw [srv, zS]
      split <;> omega
theorem clip_ways (n : Int) : (n < 0 ∧ clip n = 0) ∨ (0 ≤ n ∧ n ≤ 1500 ∧ clip n = n) ∨ (1500 < n ∧ clip n = 1500) := by unfold clip; omega

set_option maxRecDepth 100000 in
set_option maxHeartbeats 16000000 in
theorem rfair_any (fl le mo : Int) (a : Option Addr) (q c b o : Nat) (E : Nat → FlowE) (a' : Option Addr) (n c' b' o' : Nat) (L : Nat → SentE) (w : World) (hf : FlowIn w a q c b o E) (hs : SentIn w a' n c' b' o' L) (hn : n ≤ 250) (hq : q ≤ 60) :
    Calls Try.prog 21 #[.slice a q c, .slice a' n c', .int .i64 fl, .int .i64 le, .int .i64 mo] w fun e w' => e = .returned (.bool (fairQ E q L n fl le mo)) ∧ w = w' := by
  have hm1 := hf.max
  have hl1 := hf.le
  have hm2 := hs.max
  have hl2 := hs.le
  unfold maxLen at hm1 hm2
  have HF := Lib.hid hf
  have HS := Lib.hid hs
  have HQ0 : Hid (fairQ E q L n fl le mo = (decide (q ≤ 8 ∧ 0 ≤ fl ∧ fl < q) && (okW E q && okF L fl (E fl.toNat).w (allW E q) (graceF le mo (E fl.toNat).w (allW E q)) n))) := Lib.hid rfl
  obtain ⟨Q, hQ⟩ : ∃ Q, Q = fairQ E q L n fl le mo := ⟨_, rfl⟩
  rw [← hQ] at HQ0 ⊢
  clear hf hs hQ
  go_enter Try.func21, Try.ntmps21
  go_wp2_with fail
  go_loop [11, 12] (fun al i => ∃ k : Nat, k ≤ q ∧ i = .int .i64 k ∧ al = .int .i64 (allW E k) ∧ okW E k = true) (fun _ i => q - (intOf i).toNat)
  case atStart => exact ⟨0, Nat.zero_le _, rfl, rfl, rfl⟩
  case round =>
    obtain ⟨k, hk, rfl, rfl, hok⟩ := hrel
    have hab := allW_bd hok
    have HOK := Lib.hid hok
    clear hok
    by_cases hlt : k < q
    · obtain ⟨e0, e1⟩ := HF.out.at_ (by omega)
      subst e0
      obtain ⟨c0, c1, c2⟩ := HF.out.cell k hlt
      have HAL : Hid (allW E (k + 1) = allW E k + (E k).w) := Lib.hid rfl
      obtain ⟨A, hA⟩ : ∃ A, A = allW E k := ⟨_, rfl⟩
      rw [← hA] at hab HAL ⊢
      obtain ⟨a1, a2⟩ := hab
      by_cases hw : 1 ≤ (E k).w ∧ (E k).w ≤ 16
      · obtain ⟨w1, w2⟩ := hw
        have HOK2 : Hid (okW E (k + 1) = true) := Lib.hid (by rw [okW, HOK.out, decide_eq_true ⟨w1, w2⟩]; rfl)
        clear hA
        go_wp2_with fail
        go_round
        case rel => exact ⟨k + 1, by omega, by go_num, by rw [HAL.out], HOK2.out⟩
        case measure => first | (simp [intOf]; done) | (simp [intOf]; omega)
      · have HQ2 : Hid (Q = false) := Lib.hid (by rw [HQ0.out, okW_false (k := k) (by omega) q hlt]; simp)
        have hw2 : (E k).w < 1 ∨ (1 ≤ (E k).w ∧ 16 < (E k).w) := by omega
        clear hw hA
        rcases hw2 with w1 | ⟨w1, w2⟩
        all_goals
          go_wp2_with fail
          go_ret
          exact ⟨by rw [HQ2.out]; rfl, rfl⟩
    · obtain rfl : q = k := by omega
      by_cases hin : q ≤ 8 ∧ 0 ≤ fl ∧ fl < q
      · obtain ⟨hq8, hfl0, hflq⟩ := hin
        obtain ⟨f, rfl⟩ := Int.eq_ofNat_of_zero_le hfl0
        have hfq : f < q := by omega
        have y1 : decide ((8 : Int) < q) = false := decide_eq_false (by omega)
        have y2 : decide (q ≤ f) = false := decide_eq_false (by omega)
        have y3 : decide ((f : Int) < 0) = false := decide_eq_false (by omega)
        obtain ⟨e0, e1⟩ := HF.out.at_ (by omega)
        subst e0
        obtain ⟨_, c1, _⟩ := HF.out.cell f hfq
        have hwf := okW_at HOK.out f hfq
        have HQ2 : Hid (Q = okF L f (E f).w (allW E q) (graceF le mo (E f).w (allW E q)) n) := Lib.hid (by rw [HQ0.out, decide_eq_true ⟨hq8, hfl0, hflq⟩, Bool.true_and, Int.toNat_natCast, HOK.out, Bool.true_and])
        clear hfl0
        obtain ⟨A, hA⟩ : ∃ A, A = allW E q := ⟨_, rfl⟩
        obtain ⟨V, hV⟩ : ∃ V, V = (E f).w := ⟨_, rfl⟩
        rw [← hA] at hab HQ2 ⊢
        rw [← hV] at c1 hwf HQ2
        obtain ⟨a1, a2⟩ := hab
        obtain ⟨v1, v2⟩ := hwf
        obtain ⟨⟨gp1, gp2⟩, gp3, gp4⟩ := grace_parts (le := le) (mo := mo) (w := V) (al := A) (by omega) (by omega)
        have l1 := clip_bd le
        have l2 := clip_bd mo
        have lw := clip_ways le
        have mw := clip_ways mo
        obtain ⟨G, hG⟩ : ∃ G, G = graceF le mo V A := ⟨_, rfl⟩
        have hGp : G = 2 * clip le * A + (clip mo - 2 * clip le) * V := hG
        rw [← hG] at HQ2
        obtain ⟨LE, hLE⟩ : ∃ x, x = clip le := ⟨_, rfl⟩
        obtain ⟨MO, hMO⟩ : ∃ x, x = clip mo := ⟨_, rfl⟩
        rw [← hLE] at hGp gp1 gp2 gp3 gp4 l1 lw
        rw [← hMO] at hGp gp3 gp4 l2 mw
        obtain ⟨G1, hG1⟩ : ∃ x, x = 2 * LE * A := ⟨_, rfl⟩
        obtain ⟨G2, hG2⟩ : ∃ x, x = (MO - 2 * LE) * V := ⟨_, rfl⟩
        rw [← hG1] at hGp gp1 gp2
        rw [← hG2] at hGp gp3 gp4
        obtain ⟨l3, l4⟩ := l1
        obtain ⟨l5, l6⟩ := l2
        have HG1 : Hid (2 * LE * A = G1) := Lib.hid hG1.symm
        have HG2x : Hid ((MO - 2 * LE) * V = G2) := Lib.hid hG2.symm
        have HGP : Hid (G1 + G2 = G) := Lib.hid hGp.symm
        have hg1 : -48000 ≤ G1 + G2 := by omega
        have hg2 : G1 + G2 ≤ 2904000 := by omega
        have HLW := Lib.hid lw
        have HMW := Lib.hid mw
        clear hA hV hG hGp hLE hMO hG1 hG2 lw mw
        go_upto_region 11 with fail
        go_cut [3] (fun v W => v = .int .i64 LE ∧ w = W)
        case first =>
          rcases HLW.out with ⟨x1, rfl⟩ | ⟨x1, x2, rfl⟩ | ⟨x1, rfl⟩
          all_goals
            go_wp2_with fail
            go_meet
            exact ⟨rfl, rfl⟩
        case rest =>
          obtain ⟨rfl, rfl⟩ := hcut
          go_upto_region 12 with fail
          go_cut [4] (fun v W => v = .int .i64 MO ∧ w = W)
          case first =>
            rcases HMW.out with ⟨x1, rfl⟩ | ⟨x1, x2, rfl⟩ | ⟨x1, rfl⟩
            all_goals
              go_wp2_with fail
              go_meet
              exact ⟨rfl, rfl⟩
          case rest =>
            obtain ⟨rfl, rfl⟩ := hcut
            have hG1' := HG1.out
            have hG2' := HG2x.out
            go_wp2_with fail
            go_loop [14] (fun iv => ∃ i : Nat, i ≤ n ∧ iv = .int .i64 i ∧ (∀ i' k, i' < i → i' ≤ k → k < n → lagN L f V A (k + 1) - lagN L f V A i' ≤ G)) (fun iv => n - (intOf iv).toNat)
            case atStart => exact ⟨0, Nat.zero_le _, rfl, fun i' k h1 => by omega⟩
            case round =>
              obtain ⟨i, hi, rfl, hgo⟩ := hrel
              have HGO := Lib.hid hgo
              clear hgo
              by_cases hlti : i < n
              · go_wp2_with fail
                go_loop [15, 16, 17] (fun mi su kv => ∃ k : Nat, i ≤ k ∧ k ≤ n ∧ kv = .int .i64 k ∧ mi = .int .i64 (srv L f k - srv L f i) ∧ su = .int .i64 (tog L k - tog L i) ∧ (∀ k', i ≤ k' → k' < k → lagN L f V A (k' + 1) - lagN L f V A i ≤ G)) (fun _ _ kv => n - (intOf kv).toNat)
                case atStart => exact ⟨i, Nat.le_refl _, by omega, rfl, by rw [Int.sub_self], by rw [Int.sub_self], fun k' h1 h2 => by omega⟩
                case round =>
                  obtain ⟨k, hk1, hk2, rfl, rfl, rfl, hgd⟩ := hrel
                  have HGD := Lib.hid hgd
                  clear hgd
                  by_cases hltk : k < n
                  · obtain ⟨e2, e3⟩ := HS.out.at_ (by omega)
                    subst e2
                    obtain ⟨_, _, _, k3, k4, _⟩ := HS.out.cell k hltk
                    have b1' := tog_mono L i k hk1
                    have b2' := srv_mono L f i k hk1
                    have b3' := tog_bd L k
                    have b4' := srv_bd L f k
                    have b5' := tog_bd L i
                    have b6' := srv_bd L f i
                    obtain ⟨MI, hMI⟩ : ∃ x, x = srv L f k - srv L f i := ⟨_, rfl⟩
                    obtain ⟨SU, hSU⟩ : ∃ x, x = tog L k - tog L i := ⟨_, rfl⟩
                    have m0 : 0 ≤ MI := by omega
                    have m1 : MI ≤ 375000 := by omega
                    have u0 : 0 ≤ SU := by omega
                    have u1 : SU ≤ 375000 := by omega
                    rw [← hMI, ← hSU]
                    have hzz : zS L k = clip (L k).sz := rfl
                    rcases clip_ways (L k).sz with ⟨x1, x3⟩ | ⟨x1, x2, x3⟩ | ⟨x1, x3⟩
                    · have hZ : zS L k = 0 := by rw [hzz, x3]
                      clear x3 hzz
                      by_cases hown : (L k).fl = f
                      · have b0 : ((L k).fl == (f : Int)) = true := by simpa using hown
                        have HMI : Hid (srv L f (k + 1) - srv L f i = MI) := Lib.hid (by rw [srv, if_pos hown, hZ]; omega)
                        have HSU : Hid (tog L (k + 1) - tog L i = SU) := Lib.hid (by rw [tog, hZ]; omega)
                        obtain ⟨P4, hP4⟩ : ∃ x, x = V * (SU) := ⟨_, rfl⟩
                        obtain ⟨P3, hP3⟩ : ∃ x, x = (MI) * A := ⟨_, rfl⟩
                        have p1 := prod_le (a := V) (A := 16) (b := SU) (B := 376500) (by omega) (by omega) (by omega) (by omega)
                        have p2 := prod_le (a := MI) (A := 376500) (b := A) (B := 960) (by omega) (by omega) (by omega) (by omega)
                        rw [← hP4] at p1
                        rw [← hP3] at p2
                        obtain ⟨p3, p4⟩ := p1
                        obtain ⟨p5, p6⟩ := p2
                        have hP4' : V * SU = P4 := hP4.symm
                        have hP3' : MI * A = P3 := hP3.symm
                        have HLD : Hid (lagN L f V A (k + 1) - lagN L f V A i = P4 - P3) := Lib.hid (by rw [lag_diff, HSU.out, HMI.out, hP4', hP3'])
                        have HMI2 : Hid (MI = srv L f (k + 1) - srv L f i) := Lib.hid HMI.out.symm
                        have HSU2 : Hid (SU = tog L (k + 1) - tog L i) := Lib.hid HSU.out.symm
                        clear hP4 hP3 hMI hSU
                        by_cases hbad : P3 < P4 - (G1 + G2)
                        · have b1 : decide (P3 < P4 - (G1 + G2)) = true := decide_eq_true hbad
                          have HQ3 : Hid (Q = false) := Lib.hid (by rw [HQ2.out, okF_bad hk1 hltk (by rw [HLD.out, ← HGP.out]; omega)])
                          clear hbad hown hZ
                          go_wp2_with fail
                          go_ret
                          exact ⟨by rw [HQ3.out]; rfl, rfl⟩
                        · have b1 : decide (P3 < P4 - (G1 + G2)) = false := decide_eq_false hbad
                          have HG2 : Hid (∀ k', i ≤ k' → k' < k + 1 → lagN L f V A (k' + 1) - lagN L f V A i ≤ G) := Lib.hid (fun k' h1 h2 => by
                            by_cases e : k' = k
                            · rw [e, HLD.out, ← HGP.out]; omega
                            · exact HGD.out k' h1 (by omega))
                          clear hbad hown hZ
                          go_wp2_with fail
                          go_round
                          case rel => exact ⟨k + 1, by omega, by omega, by go_num, by rw [HMI2.out], by rw [HSU2.out], HG2.out⟩
                          case measure => first | (simp [intOf]; done) | (simp [intOf]; omega)
                      · have b0 : ((L k).fl == (f : Int)) = false := by simpa using hown
                        have HMI : Hid (srv L f (k + 1) - srv L f i = MI) := Lib.hid (by rw [srv, if_neg hown]; omega)
                        have HSU : Hid (tog L (k + 1) - tog L i = SU) := Lib.hid (by rw [tog, hZ]; omega)
                        obtain ⟨P4, hP4⟩ : ∃ x, x = V * (SU) := ⟨_, rfl⟩
                        obtain ⟨P3, hP3⟩ : ∃ x, x = (MI) * A := ⟨_, rfl⟩
                        have p1 := prod_le (a := V) (A := 16) (b := SU) (B := 376500) (by omega) (by omega) (by omega) (by omega)
                        have p2 := prod_le (a := MI) (A := 376500) (b := A) (B := 960) (by omega) (by omega) (by omega) (by omega)
                        rw [← hP4] at p1
                        rw [← hP3] at p2
                        obtain ⟨p3, p4⟩ := p1
                        obtain ⟨p5, p6⟩ := p2
                        have hP4' : V * SU = P4 := hP4.symm
                        have hP3' : MI * A = P3 := hP3.symm
                        have HLD : Hid (lagN L f V A (k + 1) - lagN L f V A i = P4 - P3) := Lib.hid (by rw [lag_diff, HSU.out, HMI.out, hP4', hP3'])
                        have HMI2 : Hid (MI = srv L f (k + 1) - srv L f i) := Lib.hid HMI.out.symm
                        have HSU2 : Hid (SU = tog L (k + 1) - tog L i) := Lib.hid HSU.out.symm
                        clear hP4 hP3 hMI hSU
                        by_cases hbad : P3 < P4 - (G1 + G2)
                        · have b1 : decide (P3 < P4 - (G1 + G2)) = true := decide_eq_true hbad
                          have HQ3 : Hid (Q = false) := Lib.hid (by rw [HQ2.out, okF_bad hk1 hltk (by rw [HLD.out, ← HGP.out]; omega)])
                          clear hbad hown hZ
                          go_wp2_with fail
                          go_ret
                          exact ⟨by rw [HQ3.out]; rfl, rfl⟩
                        · have b1 : decide (P3 < P4 - (G1 + G2)) = false := decide_eq_false hbad
                          have HG2 : Hid (∀ k', i ≤ k' → k' < k + 1 → lagN L f V A (k' + 1) - lagN L f V A i ≤ G) := Lib.hid (fun k' h1 h2 => by
                            by_cases e : k' = k
                            · rw [e, HLD.out, ← HGP.out]; omega
                            · exact HGD.out k' h1 (by omega))
                          clear hbad hown hZ
                          go_wp2_with fail
                          go_round
                          case rel => exact ⟨k + 1, by omega, by omega, by go_num, by rw [HMI2.out], by rw [HSU2.out], HG2.out⟩
                          case measure => first | (simp [intOf]; done) | (simp [intOf]; omega)
                    · obtain ⟨X, hX⟩ : ∃ X, X = (L k).sz := ⟨_, rfl⟩
                      have hZ : zS L k = X := by rw [hzz, x3, hX]
                      rw [← hX] at k4 x1 x2
                      clear x3 hzz hX
                      by_cases hown : (L k).fl = f
                      · have b0 : ((L k).fl == (f : Int)) = true := by simpa using hown
                        have HMI : Hid (srv L f (k + 1) - srv L f i = MI + X) := Lib.hid (by rw [srv, if_pos hown, hZ]; omega)
                        have HSU : Hid (tog L (k + 1) - tog L i = SU + X) := Lib.hid (by rw [tog, hZ]; omega)
                        obtain ⟨P4, hP4⟩ : ∃ x, x = V * (SU + X) := ⟨_, rfl⟩
                        obtain ⟨P3, hP3⟩ : ∃ x, x = (MI + X) * A := ⟨_, rfl⟩
                        have p1 := prod_le (a := V) (A := 16) (b := SU + X) (B := 376500) (by omega) (by omega) (by omega) (by omega)
                        have p2 := prod_le (a := MI + X) (A := 376500) (b := A) (B := 960) (by omega) (by omega) (by omega) (by omega)
                        rw [← hP4] at p1
                        rw [← hP3] at p2
                        obtain ⟨p3, p4⟩ := p1
                        obtain ⟨p5, p6⟩ := p2
                        have hP4' : V * (SU + X) = P4 := hP4.symm
                        have hP3' : (MI + X) * A = P3 := hP3.symm
                        have HLD : Hid (lagN L f V A (k + 1) - lagN L f V A i = P4 - P3) := Lib.hid (by rw [lag_diff, HSU.out, HMI.out, hP4', hP3'])
                        have HMI2 : Hid (MI + X = srv L f (k + 1) - srv L f i) := Lib.hid HMI.out.symm
                        have HSU2 : Hid (SU + X = tog L (k + 1) - tog L i) := Lib.hid HSU.out.symm
                        clear hP4 hP3 hMI hSU
                        by_cases hbad : P3 < P4 - (G1 + G2)
                        · have b1 : decide (P3 < P4 - (G1 + G2)) = true := decide_eq_true hbad
                          have HQ3 : Hid (Q = false) := Lib.hid (by rw [HQ2.out, okF_bad hk1 hltk (by rw [HLD.out, ← HGP.out]; omega)])
                          clear hbad hown hZ
                          go_wp2_with fail
                          go_ret
                          exact ⟨by rw [HQ3.out]; rfl, rfl⟩
                        · have b1 : decide (P3 < P4 - (G1 + G2)) = false := decide_eq_false hbad
                          have HG2 : Hid (∀ k', i ≤ k' → k' < k + 1 → lagN L f V A (k' + 1) - lagN L f V A i ≤ G) := Lib.hid (fun k' h1 h2 => by
                            by_cases e : k' = k
                            · rw [e, HLD.out, ← HGP.out]; omega
                            · exact HGD.out k' h1 (by omega))
                          clear hbad hown hZ
                          go_wp2_with fail
                          go_round
                          case rel => exact ⟨k + 1, by omega, by omega, by go_num, by rw [HMI2.out], by rw [HSU2.out], HG2.out⟩
                          case measure => first | (simp [intOf]; done) | (simp [intOf]; omega)
                      · have b0 : ((L k).fl == (f : Int)) = false := by simpa using hown
                        have HMI : Hid (srv L f (k + 1) - srv L f i = MI) := Lib.hid (by rw [srv, if_neg hown]; omega)
                        have HSU : Hid (tog L (k + 1) - tog L i = SU + X) := Lib.hid (by rw [tog, hZ]; omega)
                        obtain ⟨P4, hP4⟩ : ∃ x, x = V * (SU + X) := ⟨_, rfl⟩
                        obtain ⟨P3, hP3⟩ : ∃ x, x = (MI) * A := ⟨_, rfl⟩
                        have p1 := prod_le (a := V) (A := 16) (b := SU + X) (B := 376500) (by omega) (by omega) (by omega) (by omega)
                        have p2 := prod_le (a := MI) (A := 376500) (b := A) (B := 960) (by omega) (by omega) (by omega) (by omega)
                        rw [← hP4] at p1
                        rw [← hP3] at p2
                        obtain ⟨p3, p4⟩ := p1
                        obtain ⟨p5, p6⟩ := p2
                        have hP4' : V * (SU + X) = P4 := hP4.symm
                        have hP3' : MI * A = P3 := hP3.symm
                        have HLD : Hid (lagN L f V A (k + 1) - lagN L f V A i = P4 - P3) := Lib.hid (by rw [lag_diff, HSU.out, HMI.out, hP4', hP3'])
                        have HMI2 : Hid (MI = srv L f (k + 1) - srv L f i) := Lib.hid HMI.out.symm
                        have HSU2 : Hid (SU + X = tog L (k + 1) - tog L i) := Lib.hid HSU.out.symm
                        clear hP4 hP3 hMI hSU
                        by_cases hbad : P3 < P4 - (G1 + G2)
                        · have b1 : decide (P3 < P4 - (G1 + G2)) = true := decide_eq_true hbad
                          have HQ3 : Hid (Q = false) := Lib.hid (by rw [HQ2.out, okF_bad hk1 hltk (by rw [HLD.out, ← HGP.out]; omega)])
                          clear hbad hown hZ
                          go_wp2_with fail
                          go_ret
                          exact ⟨by rw [HQ3.out]; rfl, rfl⟩
                        · have b1 : decide (P3 < P4 - (G1 + G2)) = false := decide_eq_false hbad
                          have HG2 : Hid (∀ k', i ≤ k' → k' < k + 1 → lagN L f V A (k' + 1) - lagN L f V A i ≤ G) := Lib.hid (fun k' h1 h2 => by
                            by_cases e : k' = k
                            · rw [e, HLD.out, ← HGP.out]; omega
                            · exact HGD.out k' h1 (by omega))
                          clear hbad hown hZ
                          go_wp2_with fail
                          go_round
                          case rel => exact ⟨k + 1, by omega, by omega, by go_num, by rw [HMI2.out], by rw [HSU2.out], HG2.out⟩
                          case measure => first | (simp [intOf]; done) | (simp [intOf]; omega)
                    · have hZ : zS L k = 1500 := by rw [hzz, x3]
                      clear x3 hzz
                      by_cases hown : (L k).fl = f
                      · have b0 : ((L k).fl == (f : Int)) = true := by simpa using hown
                        have HMI : Hid (srv L f (k + 1) - srv L f i = MI + 1500) := Lib.hid (by rw [srv, if_pos hown, hZ]; omega)
                        have HSU : Hid (tog L (k + 1) - tog L i = SU + 1500) := Lib.hid (by rw [tog, hZ]; omega)
                        obtain ⟨P4, hP4⟩ : ∃ x, x = V * (SU + 1500) := ⟨_, rfl⟩
                        obtain ⟨P3, hP3⟩ : ∃ x, x = (MI + 1500) * A := ⟨_, rfl⟩
                        have p1 := prod_le (a := V) (A := 16) (b := SU + 1500) (B := 376500) (by omega) (by omega) (by omega) (by omega)
                        have p2 := prod_le (a := MI + 1500) (A := 376500) (b := A) (B := 960) (by omega) (by omega) (by omega) (by omega)
                        rw [← hP4] at p1
                        rw [← hP3] at p2
                        obtain ⟨p3, p4⟩ := p1
                        obtain ⟨p5, p6⟩ := p2
                        have hP4' : V * (SU + 1500) = P4 := hP4.symm
                        have hP3' : (MI + 1500) * A = P3 := hP3.symm
                        have HLD : Hid (lagN L f V A (k + 1) - lagN L f V A i = P4 - P3) := Lib.hid (by rw [lag_diff, HSU.out, HMI.out, hP4', hP3'])
                        have HMI2 : Hid (MI + 1500 = srv L f (k + 1) - srv L f i) := Lib.hid HMI.out.symm
                        have HSU2 : Hid (SU + 1500 = tog L (k + 1) - tog L i) := Lib.hid HSU.out.symm
                        clear hP4 hP3 hMI hSU
                        by_cases hbad : P3 < P4 - (G1 + G2)
                        · have b1 : decide (P3 < P4 - (G1 + G2)) = true := decide_eq_true hbad
                          have HQ3 : Hid (Q = false) := Lib.hid (by rw [HQ2.out, okF_bad hk1 hltk (by rw [HLD.out, ← HGP.out]; omega)])
                          clear hbad hown hZ
                          go_wp2_with fail
                          go_ret
                          exact ⟨by rw [HQ3.out]; rfl, rfl⟩
                        · have b1 : decide (P3 < P4 - (G1 + G2)) = false := decide_eq_false hbad
                          have HG2 : Hid (∀ k', i ≤ k' → k' < k + 1 → lagN L f V A (k' + 1) - lagN L f V A i ≤ G) := Lib.hid (fun k' h1 h2 => by
                            by_cases e : k' = k
                            · rw [e, HLD.out, ← HGP.out]; omega
                            · exact HGD.out k' h1 (by omega))
                          clear hbad hown hZ
                          go_wp2_with fail
                          go_round
                          case rel => exact ⟨k + 1, by omega, by omega, by go_num, by rw [HMI2.out], by rw [HSU2.out], HG2.out⟩
                          case measure => first | (simp [intOf]; done) | (simp [intOf]; omega)
                      · have b0 : ((L k).fl == (f : Int)) = false := by simpa using hown
                        have HMI : Hid (srv L f (k + 1) - srv L f i = MI) := Lib.hid (by rw [srv, if_neg hown]; omega)
                        have HSU : Hid (tog L (k + 1) - tog L i = SU + 1500) := Lib.hid (by rw [tog, hZ]; omega)
                        obtain ⟨P4, hP4⟩ : ∃ x, x = V * (SU + 1500) := ⟨_, rfl⟩
                        obtain ⟨P3, hP3⟩ : ∃ x, x = (MI) * A := ⟨_, rfl⟩
                        have p1 := prod_le (a := V) (A := 16) (b := SU + 1500) (B := 376500) (by omega) (by omega) (by omega) (by omega)
                        have p2 := prod_le (a := MI) (A := 376500) (b := A) (B := 960) (by omega) (by omega) (by omega) (by omega)
                        rw [← hP4] at p1
                        rw [← hP3] at p2
                        obtain ⟨p3, p4⟩ := p1
                        obtain ⟨p5, p6⟩ := p2
                        have hP4' : V * (SU + 1500) = P4 := hP4.symm
                        have hP3' : MI * A = P3 := hP3.symm
                        have HLD : Hid (lagN L f V A (k + 1) - lagN L f V A i = P4 - P3) := Lib.hid (by rw [lag_diff, HSU.out, HMI.out, hP4', hP3'])
                        have HMI2 : Hid (MI = srv L f (k + 1) - srv L f i) := Lib.hid HMI.out.symm
                        have HSU2 : Hid (SU + 1500 = tog L (k + 1) - tog L i) := Lib.hid HSU.out.symm
                        clear hP4 hP3 hMI hSU
                        by_cases hbad : P3 < P4 - (G1 + G2)
                        · have b1 : decide (P3 < P4 - (G1 + G2)) = true := decide_eq_true hbad
                          have HQ3 : Hid (Q = false) := Lib.hid (by rw [HQ2.out, okF_bad hk1 hltk (by rw [HLD.out, ← HGP.out]; omega)])
                          clear hbad hown hZ
                          go_wp2_with fail
                          go_ret
                          exact ⟨by rw [HQ3.out]; rfl, rfl⟩
                        · have b1 : decide (P3 < P4 - (G1 + G2)) = false := decide_eq_false hbad
                          have HG2 : Hid (∀ k', i ≤ k' → k' < k + 1 → lagN L f V A (k' + 1) - lagN L f V A i ≤ G) := Lib.hid (fun k' h1 h2 => by
                            by_cases e : k' = k
                            · rw [e, HLD.out, ← HGP.out]; omega
                            · exact HGD.out k' h1 (by omega))
                          clear hbad hown hZ
                          go_wp2_with fail
                          go_round
                          case rel => exact ⟨k + 1, by omega, by omega, by go_num, by rw [HMI2.out], by rw [HSU2.out], HG2.out⟩
                          case measure => first | (simp [intOf]; done) | (simp [intOf]; omega)
                  · obtain rfl : k = n := by omega
                    have HGO2 : Hid (∀ i' k', i' < i + 1 → i' ≤ k' → k' < k → lagN L f V A (k' + 1) - lagN L f V A i' ≤ G) := Lib.hid (fun i' k' h1 h2 h3 => by
                      by_cases e : i' = i
                      · rw [e] at h2 ⊢; exact HGD.out k' h2 h3
                      · exact HGO.out i' k' (by omega) h2 h3)
                    go_wp2_with fail
                    go_round
                    case rel => exact ⟨i + 1, by omega, by go_num, HGO2.out⟩
                    case measure => first | (simp [intOf]; done) | (simp [intOf]; omega)
              · obtain rfl : i = n := by omega
                have HQ3 : Hid (Q = true) := Lib.hid (by rw [HQ2.out, okF_good fun i' k h1 h2 => HGO.out i' k (by omega) h1 h2])
                go_wp2_with fail
                go_ret
                exact ⟨by rw [HQ3.out]; rfl, rfl⟩
      · have HQ2 : Hid (Q = false) := Lib.hid (by rw [HQ0.out, decide_eq_false hin, Bool.false_and])
        have hcc : fl < 0 ∨ (0 ≤ fl ∧ (q : Int) ≤ fl) ∨ (0 ≤ fl ∧ fl < q ∧ 8 < q) := by omega
        clear hin
        rcases hcc with z1 | ⟨z1, z2⟩ | ⟨z1, z2, z3⟩
        · go_wp2_with fail
          go_ret
          exact ⟨by rw [HQ2.out]; rfl, rfl⟩
        · have d1 : decide ((q : Int) ≤ fl) = true := decide_eq_true z2
          go_wp2_with fail
          go_ret
          exact ⟨by rw [HQ2.out]; rfl, rfl⟩
        · have d1 : decide ((q : Int) ≤ fl) = false := decide_eq_false (by omega)
          have d2 : decide ((8 : Int) < q) = true := decide_eq_true (by omega)
          go_wp2_with fail
          go_ret
          exact ⟨by rw [HQ2.out]; rfl, rfl⟩
end Go.Proofs.Ytoodmocapagapaa
