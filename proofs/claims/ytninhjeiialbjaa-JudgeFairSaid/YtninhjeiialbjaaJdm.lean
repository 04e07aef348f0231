/-
  judge.Fair, walked.
-/
import Derived.Test.YtninhjeiialbjaaJdl
namespace Go.Proofs.Ytninhjeiialbjaa
open Go.RowKit
set_option linter.unusedSimpArgs false
set_option linter.unusedVariables false

def z8 (f : Nat) (x : Int) : Array Value := (#[.int .i64 0, .int .i64 0, .int .i64 0, .int .i64 0, .int .i64 0, .int .i64 0, .int .i64 0, .int .i64 0] : Array Value).setIfInBounds f (.int .i64 x)
theorem z8_0 (f : Nat) (h : f < 8) : (#[.int .i64 0, .int .i64 0, .int .i64 0, .int .i64 0, .int .i64 0, .int .i64 0, .int .i64 0, .int .i64 0] : Array Value) = z8 f 0 := by
  have h8 : f = 0 ∨ f = 1 ∨ f = 2 ∨ f = 3 ∨ f = 4 ∨ f = 5 ∨ f = 6 ∨ f = 7 := by omega
  rcases h8 with rfl | rfl | rfl | rfl | rfl | rfl | rfl | rfl <;> rfl
theorem z8_at (f : Nat) (x : Int) (h : f < 8) : (z8 f x)[f]? = some (.int .i64 x) := by
  have h8 : f = 0 ∨ f = 1 ∨ f = 2 ∨ f = 3 ∨ f = 4 ∨ f = 5 ∨ f = 6 ∨ f = 7 := by omega
  rcases h8 with rfl | rfl | rfl | rfl | rfl | rfl | rfl | rfl <;> rfl
theorem z8_set (f : Nat) (x y : Int) (h : f < 8) : (z8 f x).setIfInBounds f (.int .i64 y) = z8 f y := by
  have h8 : f = 0 ∨ f = 1 ∨ f = 2 ∨ f = 3 ∨ f = 4 ∨ f = 5 ∨ f = 6 ∨ f = 7 := by omega
  rcases h8 with rfl | rfl | rfl | rfl | rfl | rfl | rfl | rfl <;> rfl
theorem low_bd {L : Nat → SentE} {fl w al : Int} {k : Nat} (hk : k ≤ 60) (hw : 0 ≤ w ∧ w ≤ 16) (ha : 0 ≤ al ∧ al ≤ 960) : -86400000 ≤ lowN L fl w al k ∧ lowN L fl w al k ≤ 0 := by
  obtain ⟨h1, j, h2, h3⟩ := lowN_spec L fl w al k
  have h4 := h1 0 (by omega)
  have h5 : lagN L fl w al 0 = 0 := by simp [lagN, tog, srv]
  have t1 := tog_bd L j
  have t2 := srv_bd L fl j
  have p1 := prod_le hw.1 hw.2 t1.1 (show tog L j ≤ 90000 by omega)
  have p2 := prod_le ha.1 ha.2 t2.1 (show srv L fl j ≤ 90000 by omega)
  unfold lagN at h3
  omega
theorem grace_parts {le mo w al : Int} (hw : 0 ≤ w ∧ w ≤ 16) (ha : 0 ≤ al ∧ al ≤ 960) : (0 ≤ 2 * clip le * al ∧ 2 * clip le * al ≤ 2880000) ∧ -48000 ≤ (clip mo - 2 * clip le) * w ∧ (clip mo - 2 * clip le) * w ≤ 24000 := by
  have c1 := clip_bd le
  have c2 := clip_bd mo
  have p1 := prod_le (a := 2 * clip le) (A := 3000) (by omega) (by omega) ha.1 ha.2
  have p2 := prod_le (a := clip mo) (A := 1500) (by omega) (by omega) hw.1 hw.2
  have p3 := prod_le (a := 2 * clip le) (A := 3000) (by omega) (by omega) hw.1 hw.2
  rw [Int.sub_mul]
  omega

set_option maxRecDepth 100000 in
set_option maxHeartbeats 16000000 in
theorem fair_any (fl le mo : Int) (a : Option Addr) (q c b o : Nat) (E : Nat → FlowE) (a' : Option Addr) (n c' b' o' : Nat) (L : Nat → SentE) (w : World) (hf : FlowIn w a q c b o E) (hs : SentIn w a' n c' b' o' L) (hn : n ≤ 60) :
    Calls Try.prog 54 #[.slice a q c, .slice a' n c', .int .i64 fl, .int .i64 le, .int .i64 mo] w fun e w' => e = .returned (.bool (fairQ E q L n fl le mo)) ∧ Below w.heap.size w w' := by
  have hm1 := hf.max
  have hl1 := hf.le
  have hm2 := hs.max
  have hl2 := hs.le
  unfold maxLen at hm1 hm2
  have HF := Lib.hid hf
  have HS := Lib.hid hs
  have HQ0 : Hid (fairQ E q L n fl le mo = (decide (q ≤ 8 ∧ 0 ≤ fl ∧ fl < q) && (okW E q && okF L fl (E fl.toNat).w (allW E q) (graceF le mo (E fl.toNat).w (allW E q)) n))) := Lib.hid rfl
  obtain ⟨Q, hQ⟩ : ∃ Q, Q = fairQ E q L n fl le mo := ⟨_, rfl⟩
  rw [← hQ] at HQ0 ⊢
  clear hf hs hQ
  by_cases hin : q ≤ 8 ∧ 0 ≤ fl ∧ fl < q
  · obtain ⟨hq8, hfl0, hflq⟩ := hin
    obtain ⟨f, rfl⟩ := Int.eq_ofNat_of_zero_le hfl0
    have hfq : f < q := by omega
    have HQ1 : Hid (Q = (okW E q && okF L f (E f).w (allW E q) (graceF le mo (E f).w (allW E q)) n)) := Lib.hid (by rw [HQ0.out, decide_eq_true ⟨hq8, hfl0, hflq⟩, Bool.true_and, Int.toNat_natCast])
    have y1 : decide ((8 : Int) < q) = false := decide_eq_false (by omega)
    have y2 : decide (q ≤ f) = false := decide_eq_false (by omega)
    have y3 : decide ((f : Int) < 0) = false := decide_eq_false (by omega)
    clear hfl0
    go_enter Try.func54, Try.ntmps54
    go_wp2_with fail
    go_loopw [11, 38] (fun al i wr => ∃ k : Nat, k ≤ q ∧ i = .int .i64 k ∧ al = .int .i64 (allW E k) ∧ okW E k = true ∧ Below w.heap.size w wr) (fun _ i _ => q - (intOf i).toNat)
    case atStart => exact ⟨0, Nat.zero_le _, rfl, rfl, rfl, Below.refl _ _⟩
    case round =>
      obtain ⟨k, hk, rfl, rfl, hok, hB⟩ := hrel
      have hab := allW_bd hok
      have HOK := Lib.hid hok
      have HB := Lib.hid hB
      clear hok hB
      by_cases hlt : k < q
      · obtain ⟨e0, e1⟩ := HF.out.at_ (by omega)
        subst e0
        obtain ⟨c0, c1, c2⟩ := (HF.out.below HB.out).cell k hlt
        have HAL : Hid (allW E (k + 1) = allW E k + (E k).w) := Lib.hid rfl
        obtain ⟨A, hA⟩ : ∃ A, A = allW E k := ⟨_, rfl⟩
        rw [← hA] at hab HAL ⊢
        obtain ⟨a1, a2⟩ := hab
        by_cases hw : 1 ≤ (E k).w ∧ (E k).w ≤ 16
        · obtain ⟨w1, w2⟩ := hw
          have HOK2 : Hid (okW E (k + 1) = true) := Lib.hid (by rw [okW, HOK.out, decide_eq_true ⟨w1, w2⟩]; rfl)
          clear hA
          go_wp2_with fail
          go_roundw
          case rel => exact ⟨k + 1, by omega, by go_num, by rw [HAL.out], HOK2.out, HB.out.alloc HB.out.size _⟩
          case measure => first | (simp [intOf]; done) | (simp [intOf]; omega)
        · have HQ2 : Hid (Q = false) := Lib.hid (by rw [HQ1.out, okW_false (k := k) (by omega) q hlt, Bool.false_and])
          have hw2 : (E k).w < 1 ∨ (1 ≤ (E k).w ∧ 16 < (E k).w) := by omega
          clear hw hA
          rcases hw2 with w1 | ⟨w1, w2⟩
          all_goals
            go_wp2_with fail
            go_ret
            exact ⟨by rw [HQ2.out]; rfl, HB.out.alloc HB.out.size _⟩
      · obtain rfl : q = k := by omega
        obtain ⟨e0, e1⟩ := HF.out.at_ (by omega)
        subst e0
        obtain ⟨_, c1, _⟩ := (HF.out.below HB.out).cell f hfq
        have hwf := okW_at HOK.out f hfq
        have HQ2 : Hid (Q = okF L f (E f).w (allW E q) (graceF le mo (E f).w (allW E q)) n) := Lib.hid (by rw [HQ1.out, HOK.out, Bool.true_and])
        obtain ⟨A, hA⟩ : ∃ A, A = allW E q := ⟨_, rfl⟩
        obtain ⟨V, hV⟩ : ∃ V, V = (E f).w := ⟨_, rfl⟩
        rw [← hA] at hab HQ2 ⊢
        rw [← hV] at c1 hwf HQ2
        obtain ⟨a1, a2⟩ := hab
        obtain ⟨v1, v2⟩ := hwf
        obtain ⟨⟨gp1, gp2⟩, gp3, gp4⟩ := grace_parts (le := le) (mo := mo) (w := V) (al := A) (by omega) (by omega)
        have l1 := clip_bd le
        have l2 := clip_bd mo
        obtain ⟨G, hG⟩ : ∃ G, G = graceF le mo V A := ⟨_, rfl⟩
        have hGp : G = 2 * clip le * A + (clip mo - 2 * clip le) * V := hG
        rw [← hG] at HQ2
        have HC1 : Hid (∀ W, Calls Try.prog 91 #[.int .i64 le, .int .i64 1500] W fun e w' => e = .returned (.int .i64 (clip le)) ∧ W = w') := Lib.hid (fun W => within15 le W)
        have HC2 : Hid (∀ W, Calls Try.prog 91 #[.int .i64 mo, .int .i64 1500] W fun e w' => e = .returned (.int .i64 (clip mo)) ∧ W = w') := Lib.hid (fun W => within15 mo W)
        obtain ⟨LE, hLE⟩ : ∃ x, x = clip le := ⟨_, rfl⟩
        obtain ⟨MO, hMO⟩ : ∃ x, x = clip mo := ⟨_, rfl⟩
        rw [← hLE] at HC1 hGp gp1 gp2 gp3 gp4 l1
        rw [← hMO] at HC2 hGp gp3 gp4 l2
        obtain ⟨G1, hG1⟩ : ∃ x, x = 2 * LE * A := ⟨_, rfl⟩
        obtain ⟨G2, hG2⟩ : ∃ x, x = (MO - 2 * LE) * V := ⟨_, rfl⟩
        rw [← hG1] at hGp gp1 gp2
        rw [← hG2] at hGp gp3 gp4
        obtain ⟨l3, l4⟩ := l1
        obtain ⟨l5, l6⟩ := l2
        have hG1' : 2 * LE * A = G1 := hG1.symm
        have hG2' : (MO - 2 * LE) * V = G2 := hG2.symm
        have HGP : Hid (G1 + G2 = G) := Lib.hid hGp.symm
        have hg1 : -48000 ≤ G1 + G2 := by omega
        have hg2 : G1 + G2 ≤ 2904000 := by omega
        clear hA hV hG hGp hLE hMO hG1 hG2
        go_wp2_with fail
        go_at_call 91
        refine (HC1.out _).mono ?_
        rintro e W ⟨rfl, rfl⟩
        go_wp2_with fail
        go_at_call 91
        refine (HC2.out _).mono ?_
        rintro e W ⟨rfl, rfl⟩
        go_upto_region 15 with fail
        obtain ⟨B, hB9⟩ : ∃ B, B = wr.heap.size := ⟨_, rfl⟩
        obtain ⟨W0, hW0⟩ : ∃ W0, W0 = wr.alloc (.cells #[.int .i64 0, .int .i64 0, .int .i64 0, .int .i64 0, .int .i64 0, .int .i64 0, .int .i64 0, .int .i64 0] 145) := ⟨_, rfl⟩
        have HBK0 : Hid (Blk W0 B (z8 f 0) 145) := Lib.hid (by rw [hW0, hB9, ← z8_0 f (by omega)]; exact blk_new _ _ _)
        have HBW0 : Hid (Below w.heap.size w W0) := Lib.hid (by rw [hW0]; exact HB.out.alloc HB.out.size _)
        have HBB : Hid (w.heap.size ≤ B) := Lib.hid (by rw [hB9]; exact HB.out.size)
        rw [← hB9, ← hW0]
        clear hB9 hW0 c1 HOK HB
        go_wp2_with fail
        go_loopw [17, 18, 77] (fun tg lo i wr => ∃ k : Nat, k ≤ n ∧ i = .int .i64 k ∧ tg = .int .i64 (tog L k) ∧ lo = .int .i64 (lowN L f V A k) ∧ okF L f V A G k = true ∧ Blk wr B (z8 f (srv L f k)) 145 ∧ Below w.heap.size w wr) (fun _ _ i _ => n - (intOf i).toNat)
        case atStart => exact ⟨0, Nat.zero_le _, rfl, rfl, rfl, rfl, HBK0.out, HBW0.out⟩
        case round =>
          clear HBK0 HBW0
          obtain ⟨k, hkn, rfl, rfl, rfl, hok3, hbk, hbx⟩ := hrel
          obtain ⟨t1, t2⟩ := tog_bd L k
          obtain ⟨s1, s2⟩ := srv_bd L f k
          obtain ⟨lo1, lo2⟩ := low_bd (L := L) (fl := f) (w := V) (al := A) (k := k) (by omega) (by omega) (by omega)
          have HOK3 := Lib.hid hok3
          have HBK := Lib.hid hbk
          have HBX := Lib.hid hbx
          have hBlt := hbk.lt
          clear hok3 hbk hbx
          by_cases hltn : k < n
          · obtain ⟨e2, e3⟩ := HS.out.at_ (by omega)
            subst e2
            obtain ⟨k0, k1, k2, k3, k4, k5⟩ := (HS.out.below HBX.out).cell k hltn
            have HCZ : Hid (∀ W, Calls Try.prog 91 #[.int .i64 (L k).sz, .int .i64 1500] W fun e w' => e = .returned (.int .i64 (zS L k)) ∧ W = w') := Lib.hid (fun W => within15 _ W)
            have hzb := clip_bd (L k).sz
            have HTG : Hid (tog L (k + 1) = tog L k + zS L k) := Lib.hid rfl
            obtain ⟨Z, hZ⟩ : ∃ x, x = zS L k := ⟨_, rfl⟩
            rw [show clip (L k).sz = zS L k from rfl, ← hZ] at hzb
            rw [← hZ] at HCZ HTG
            obtain ⟨z1, z2⟩ := hzb
            obtain ⟨TG, hTG⟩ : ∃ x, x = tog L k := ⟨_, rfl⟩
            rw [← hTG] at t1 t2 HTG ⊢
            obtain ⟨LO, hLO⟩ : ∃ x, x = lowN L f V A k := ⟨_, rfl⟩
            rw [← hLO] at lo1 lo2 ⊢
            obtain ⟨S, hS⟩ : ∃ x, x = srv L f k := ⟨_, rfl⟩
            rw [← hS] at s1 s2 HBK
            have q0 : wr.cell? ⟨B, f, none⟩ = some (.int .i64 S) := (cell_at HBK.out f).trans (z8_at f S (by omega))
            have qf := free_at HBK.out f
            have BLKP : Hid (∀ o, Blk ((wr.setCell ⟨B, f, none⟩ (.int .i64 (S + Z))).alloc o) B (z8 f (S + Z)) 145) := Lib.hid (fun o => by
              rw [← z8_set f S (S + Z) (by omega)]
              exact (HBK.out.set f _).alloc _)
            have t3 : TG ≤ 90000 := by omega
            have s3 : S ≤ 90000 := by omega
            clear hTG t2 s2
            by_cases hown : (L k).fl = f
            · have b0 : ((L k).fl == (f : Int)) = true := by simpa using hown
              go_wp2_with fail
              go_at_call 91
              refine (HCZ.out _).mono ?_
              rintro e W ⟨rfl, rfl⟩
              have HSN : Hid (srv L f (k + 1) = S + Z) := Lib.hid (by rw [srv, if_pos hown, ← hS, ← hZ])
              obtain ⟨P1, hP1⟩ : ∃ x, x = V * (TG + Z) := ⟨_, rfl⟩
              obtain ⟨P2, hP2⟩ : ∃ x, x = A * (S + Z) := ⟨_, rfl⟩
              have p1 := prod_le (a := V) (A := 16) (b := TG + Z) (B := 91500) (by omega) (by omega) (by omega) (by omega)
              have p2 := prod_le (a := A) (A := 960) (b := S + Z) (B := 91500) (by omega) (by omega) (by omega) (by omega)
              rw [← hP1] at p1
              rw [← hP2] at p2
              obtain ⟨p3, p4⟩ := p1
              obtain ⟨p5, p6⟩ := p2
              have hP1' : V * (TG + Z) = P1 := hP1.symm
              have hP2' : A * (S + Z) = P2 := hP2.symm
              have HLG : Hid (lagN L f V A (k + 1) = P1 - P2) := Lib.hid (by rw [lagN, HTG.out, HSN.out, hP1', hP2'])
              have HLO : Hid (lowN L f V A (k + 1) = min LO (P1 - P2)) := Lib.hid (by rw [lowN, ← hLO, HLG.out])
              clear hP1 hP2
              by_cases hbad : G1 + G2 < P1 - P2 - LO
              · have b1 : decide (G1 + G2 < P1 - P2 - LO) = true := decide_eq_true hbad
                have HQ3 : Hid (Q = false) := Lib.hid (by rw [HQ2.out, okF_false (k := k) (by rw [HLG.out, ← HGP.out, ← hLO]; exact hbad) n hltn])
                clear hbad hown hS hZ hLO
                go_wp2_with fail
                go_ret
                exact ⟨by rw [HQ3.out]; rfl, ((HBX.out.setCell (p := ⟨B, f, none⟩) HBB.out _).alloc (by rw [World.size_setCell]; exact HBX.out.size) _)⟩
              · have b1 : decide (G1 + G2 < P1 - P2 - LO) = false := decide_eq_false hbad
                have HOK4 : Hid (okF L f V A G (k + 1) = true) := Lib.hid (by rw [okF, HOK3.out, HLG.out, ← hLO, ← HGP.out, decide_eq_true (by omega)]; rfl)
                clear hown hS hZ hLO
                rcases (show (LO < P1 - P2 ∨ P1 - P2 < LO ∨ LO = P1 - P2) by omega) with x1 | x1 | x1
                · have HLO2 : Hid (lowN L f V A (k + 1) = LO) := Lib.hid (by rw [HLO.out]; omega)
                  go_wp2_with fail
                  go_roundw
                  case rel => exact ⟨k + 1, by omega, by go_num, by rw [HTG.out], by rw [HLO2.out], HOK4.out, by rw [HSN.out]; exact BLKP.out _, ((HBX.out.setCell (p := ⟨B, f, none⟩) HBB.out _).alloc (by rw [World.size_setCell]; exact HBX.out.size) _)⟩
                  case measure => first | (simp [intOf]; done) | (simp [intOf]; omega)
                · have HLO2 : Hid (lowN L f V A (k + 1) = P1 - P2) := Lib.hid (by rw [HLO.out]; omega)
                  go_wp2_with fail
                  go_roundw
                  case rel => exact ⟨k + 1, by omega, by go_num, by rw [HTG.out], by rw [HLO2.out], HOK4.out, by rw [HSN.out]; exact BLKP.out _, ((HBX.out.setCell (p := ⟨B, f, none⟩) HBB.out _).alloc (by rw [World.size_setCell]; exact HBX.out.size) _)⟩
                  case measure => first | (simp [intOf]; done) | (simp [intOf]; omega)
                · have HLO2 : Hid (lowN L f V A (k + 1) = P1 - P2) := Lib.hid (by rw [HLO.out]; omega)
                  have x2 : LO ≤ P1 - P2 := by omega
                  have x3 : P1 - P2 ≤ LO := by omega
                  have HX1 := Lib.hid x1
                  clear x1
                  go_wp2_with fail
                  all_goals
                    go_roundw
                    case rel => exact ⟨k + 1, by omega, by go_num, by rw [HTG.out], by rw [HLO2.out]; first | rfl | rw [← HX1.out] | rw [HX1.out], HOK4.out, by rw [HSN.out]; exact BLKP.out _, ((HBX.out.setCell (p := ⟨B, f, none⟩) HBB.out _).alloc (by rw [World.size_setCell]; exact HBX.out.size) _)⟩
                    case measure => first | (simp [intOf]; done) | (simp [intOf]; omega)
            · have b0 : ((L k).fl == (f : Int)) = false := by simpa using hown
              go_wp2_with fail
              go_at_call 91
              refine (HCZ.out _).mono ?_
              rintro e W ⟨rfl, rfl⟩
              have HSN : Hid (srv L f (k + 1) = S) := Lib.hid (by rw [srv, if_neg hown, Int.add_zero, ← hS])
              obtain ⟨P1, hP1⟩ : ∃ x, x = V * (TG + Z) := ⟨_, rfl⟩
              obtain ⟨P2, hP2⟩ : ∃ x, x = A * (S) := ⟨_, rfl⟩
              have p1 := prod_le (a := V) (A := 16) (b := TG + Z) (B := 91500) (by omega) (by omega) (by omega) (by omega)
              have p2 := prod_le (a := A) (A := 960) (b := S) (B := 91500) (by omega) (by omega) (by omega) (by omega)
              rw [← hP1] at p1
              rw [← hP2] at p2
              obtain ⟨p3, p4⟩ := p1
              obtain ⟨p5, p6⟩ := p2
              have hP1' : V * (TG + Z) = P1 := hP1.symm
              have hP2' : A * (S) = P2 := hP2.symm
              have HLG : Hid (lagN L f V A (k + 1) = P1 - P2) := Lib.hid (by rw [lagN, HTG.out, HSN.out, hP1', hP2'])
              have HLO : Hid (lowN L f V A (k + 1) = min LO (P1 - P2)) := Lib.hid (by rw [lowN, ← hLO, HLG.out])
              clear hP1 hP2
              by_cases hbad : G1 + G2 < P1 - P2 - LO
              · have b1 : decide (G1 + G2 < P1 - P2 - LO) = true := decide_eq_true hbad
                have HQ3 : Hid (Q = false) := Lib.hid (by rw [HQ2.out, okF_false (k := k) (by rw [HLG.out, ← HGP.out, ← hLO]; exact hbad) n hltn])
                clear hbad hown hS hZ hLO
                go_wp2_with fail
                go_ret
                exact ⟨by rw [HQ3.out]; rfl, (HBX.out.alloc HBX.out.size _)⟩
              · have b1 : decide (G1 + G2 < P1 - P2 - LO) = false := decide_eq_false hbad
                have HOK4 : Hid (okF L f V A G (k + 1) = true) := Lib.hid (by rw [okF, HOK3.out, HLG.out, ← hLO, ← HGP.out, decide_eq_true (by omega)]; rfl)
                clear hown hS hZ hLO
                rcases (show (LO < P1 - P2 ∨ P1 - P2 < LO ∨ LO = P1 - P2) by omega) with x1 | x1 | x1
                · have HLO2 : Hid (lowN L f V A (k + 1) = LO) := Lib.hid (by rw [HLO.out]; omega)
                  go_wp2_with fail
                  go_roundw
                  case rel => exact ⟨k + 1, by omega, by go_num, by rw [HTG.out], by rw [HLO2.out], HOK4.out, by rw [HSN.out]; exact HBK.out.alloc _, (HBX.out.alloc HBX.out.size _)⟩
                  case measure => first | (simp [intOf]; done) | (simp [intOf]; omega)
                · have HLO2 : Hid (lowN L f V A (k + 1) = P1 - P2) := Lib.hid (by rw [HLO.out]; omega)
                  go_wp2_with fail
                  go_roundw
                  case rel => exact ⟨k + 1, by omega, by go_num, by rw [HTG.out], by rw [HLO2.out], HOK4.out, by rw [HSN.out]; exact HBK.out.alloc _, (HBX.out.alloc HBX.out.size _)⟩
                  case measure => first | (simp [intOf]; done) | (simp [intOf]; omega)
                · have HLO2 : Hid (lowN L f V A (k + 1) = P1 - P2) := Lib.hid (by rw [HLO.out]; omega)
                  have x2 : LO ≤ P1 - P2 := by omega
                  have x3 : P1 - P2 ≤ LO := by omega
                  have HX1 := Lib.hid x1
                  clear x1
                  go_wp2_with fail
                  all_goals
                    go_roundw
                    case rel => exact ⟨k + 1, by omega, by go_num, by rw [HTG.out], by rw [HLO2.out]; first | rfl | rw [← HX1.out] | rw [HX1.out], HOK4.out, by rw [HSN.out]; exact HBK.out.alloc _, (HBX.out.alloc HBX.out.size _)⟩
                    case measure => first | (simp [intOf]; done) | (simp [intOf]; omega)
          · obtain rfl : k = n := by omega
            have HQ3 : Hid (Q = true) := Lib.hid (by rw [HQ2.out, HOK3.out])
            go_wp2_with fail
            go_ret
            exact ⟨by rw [HQ3.out]; rfl, HBX.out⟩
  · have HQ2 : Hid (Q = false) := Lib.hid (by rw [HQ0.out, decide_eq_false hin, Bool.false_and])
    have hcc : 8 < q ∨ (q ≤ 8 ∧ fl < 0) ∨ (q ≤ 8 ∧ 0 ≤ fl ∧ (q : Int) ≤ fl) := by omega
    clear hin
    rcases hcc with y1 | ⟨y1, y2⟩ | ⟨y1, y2, y3⟩
    · have d1 : decide ((8 : Int) < q) = true := decide_eq_true (by omega)
      go_enter Try.func54, Try.ntmps54
      go_wp2_with fail
      go_ret
      exact ⟨by rw [HQ2.out]; rfl, Below.refl _ _⟩
    all_goals
      have d1 : decide ((8 : Int) < q) = false := decide_eq_false (by omega)
      go_enter Try.func54, Try.ntmps54
      go_wp2_with fail
      go_ret
      exact ⟨by rw [HQ2.out]; rfl, Below.refl _ _⟩
end Go.Proofs.Ytninhjeiialbjaa
