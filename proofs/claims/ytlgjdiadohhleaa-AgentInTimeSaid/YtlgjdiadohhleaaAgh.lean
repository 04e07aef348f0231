/-
  AgentInTime, walked.
-/
import Derived.Test.YtlgjdiadohhleaaAgg
import Derived.Test.YtlgjdiadohhleaaAge
namespace Go.Proofs.Ytlgjdiadohhleaa
open Go.RowKit
set_option linter.unusedSimpArgs false
set_option linter.unusedVariables false

def it0 (TI : Int) : Ag := ⟨2, 1, 1000 * TI, 0, 0, false, 0, 0, 0, 0, 0⟩
def it1 (TI SZ SE : Int) : Ag := ⟨2, 1, 1000 * TI, SE, 1, true, 1, 1, 5, SZ, SE⟩
theorem it_ask (TI SZ : Int) {SE : Int} (h : 0 ≤ SE) : (it0 TI).ask 5 SZ SE = it1 TI SZ SE := by
  simp only [Ag.ask, Ag.tick, it0, it1, Ag.mk.injEq, true_and, and_true]
  omega

set_option maxRecDepth 100000 in
set_option maxHeartbeats 32000000 in
theorem inTime_walk (a0 a1 a2 a3 : Int) (p1 : Option Addr) (len cap b1 o1 : Nat) (S : Nat → Int) (p2 : Option Addr) (len2 cap2 b2 o2 : Nat) (T : Nat → Int) (w : World) (hs : IntsIn w p1 len cap b1 o1 S) (ht : IntsIn w p2 len2 cap2 b2 o2 T) (hl : len ≤ 60) (hl2 : len ≤ len2) :
    Calls Try.prog 4 #[.int .i64 a0, .int .i64 a1, .int .i64 a2, .int .i64 a3, .slice p1 len cap, .slice p2 len2 cap2] w fun e w' => e = .returned (.bool true) ∧ Below w.heap.size w w' := by
  have m1 := hs.le
  have m2 := hs.max
  have m3 := ht.le
  have m4 := ht.max
  unfold maxLen at m2 m4
  have HS := Lib.hid hs
  have HTT := Lib.hid ht
  obtain ⟨q0, q1⟩ := wmod_bd a0 1048576 (by omega) (by omega)
  obtain ⟨q2, q3⟩ := wmod_bd a1 1000000 (by omega) (by omega)
  obtain ⟨q4, q5⟩ := wmod_bd a2 1099511627776 (by omega) (by omega)
  obtain ⟨q6, q7⟩ := wmod_bd a3 2147483648 (by omega) (by omega)
  clear hs ht
  go_enter Try.func4, Try.ntmps4
  go_upto_region 7 with fail
  generalize (wrap64 (a0.tmod 1048576 + 1048576)).tmod 1048576 = Q0 at q0 q1 ⊢
  generalize (wrap64 (a1.tmod 1000000 + 1000000)).tmod 1000000 = Q1 at q2 q3 ⊢
  generalize (wrap64 (a2.tmod 1099511627776 + 1099511627776)).tmod 1099511627776 = SE at q4 q5 ⊢
  generalize (wrap64 (a3.tmod 2147483648 + 2147483648)).tmod 2147483648 = D0 at q6 q7 ⊢
  try rw [IntWalk.wrap64_in (1 + Q0) (by omega)]
  try rw [IntWalk.wrap64_in (1 + Q1) (by omega)]
  try rw [IntWalk.wrap64_in (SE + D0) (by omega)]
  obtain ⟨TI, hTI⟩ : ∃ TI, TI = 1 + Q0 := ⟨_, rfl⟩
  obtain ⟨SZ, hSZ⟩ : ∃ SZ, SZ = 1 + Q1 := ⟨_, rfl⟩
  obtain ⟨N0, hN0⟩ : ∃ N0, N0 = SE + D0 := ⟨_, rfl⟩
  rw [← hTI, ← hSZ, ← hN0]
  have s1 : 1 ≤ TI ∧ TI ≤ 1048576 := by omega
  have s2 : 1 ≤ SZ ∧ SZ ≤ 1000000 := by omega
  have s3 : SE ≤ N0 := by omega
  have s4 : N0 ≤ 1101659111424 := by omega
  clear hTI hSZ hN0 q0 q1 q2 q3 q6 q7
  have HS1 := Lib.hid s1
  have HS2 := Lib.hid s2
  obtain ⟨s1a, s1b⟩ := s1
  obtain ⟨s2a, s2b⟩ := s2
  -- the agent
  go_wp2_with fail
  go_at_call 24
  refine (agNew_ok 2 1 TI (by omega) (by omega) (by have := HS1.out; omega) w).mono ?_
  rintro e W1 ⟨rfl, h1, hw1⟩
  obtain ⟨g, hg⟩ : ∃ g, g = w.heap.size := ⟨_, rfl⟩
  rw [← hg] at h1
  rw [← hg]
  change AgAt W1 g (it0 TI) (.gone none 0) at h1
  have HB1 : Hid (Below w.heap.size w W1) := Lib.hid (by rw [hw1]; exact (Below.refl _ _).alloc (Nat.le_refl _) _)
  have HG := Lib.hid hg
  have AK := ask_ok g (it0 TI) (.gone none 0) 5 SZ SE W1 h1 rfl (by omega) HS2.out ⟨q4, by omega⟩ (by simp [it0])
  simp only [cmdL] at AK
  rw [it_ask TI SZ q4, show (it0 TI).nu + 1 = 1 from rfl, show (it0 TI).sh = 2 from rfl, show (it0 TI).ep = 1 from rfl] at AK
  change Calls _ _ _ _ (fun e w' => _ ∧ AgAt w' g (it1 TI SZ SE) (.gone none 0) ∧ Fr [g] W1 w') at AK
  have HAK := Lib.hid AK
  clear h1 hw1 hg AK
  go_wp2_with fail
  go_at_call 14
  refine Calls.mono HAK.out ?_
  rintro e W2 ⟨rfl, h2, hf⟩
  have HB2 := Lib.hid (HB1.out.trans (hf.below HB1.out.size (by have := HG.out; simp; omega)))
  have HA2 := Lib.hid h2
  clear h2 hf HAK HB1
  go_upto_region 11 with fail
  obtain ⟨T1, hT1⟩ : ∃ P, P = W2.heap.size := ⟨_, rfl⟩
  obtain ⟨W3, hW3⟩ : ∃ W, W = W2.alloc (.cells #[.int .i8 4, .int .i64 0, .int .i64 1, .int .i64 5, .int .i64 0, .int .i64 0, .int .i64 2, .int .i64 1, .int .i64 0, .int .i64 SZ, .int .i64 0, .bool false, .slice none 0 0] 31) := ⟨_, rfl⟩
  have hBx : Below W2.heap.size W2 W3 := by rw [hW3]; exact (Below.refl _ _).alloc (Nat.le_refl _) _
  have HT3 : Hid (Blk W3 T1 #[.int .i8 4, .int .i64 0, .int .i64 1, .int .i64 5, .int .i64 0, .int .i64 0, .int .i64 2, .int .i64 1, .int .i64 0, .int .i64 SZ, .int .i64 0, .bool false, .slice none 0 0] 31) := Lib.hid (by rw [hW3, hT1]; exact blk_new _ _ _)
  have HB3 := Lib.hid (HB2.out.trans (hBx.mono HB2.out.size))
  have HA3 := Lib.hid (HA2.out.below hBx)
  have hgT : g < T1 := by rw [hT1]; exact HA2.out.blk.lt
  have HGT := Lib.hid hgT
  have AG := again_ok g (it1 TI SZ SE) (.slice none 0 0) W3 HA3.out.blk rfl
  simp only [cmdL] at AG
  change Calls _ _ _ _ (fun e w' => e = .returned (.tuple #[.agg #[.int .i8 4, .int .i64 0, .int .i64 1, .int .i64 5, .int .i64 0, .int .i64 0, .int .i64 2, .int .i64 1, .int .i64 0, .int .i64 SZ, .int .i64 0, .bool false, .slice none 0 0], .bool true]) ∧ _) at AG
  have HAG := Lib.hid AG
  rw [← hT1]
  change Code.wp _ _ _ _ (W2.alloc (.cells #[.int .i8 4, .int .i64 0, .int .i64 1, .int .i64 5, .int .i64 0, .int .i64 0, .int .i64 2, .int .i64 1, .int .i64 0, .int .i64 SZ, .int .i64 0, .bool false, .slice none 0 0] 31))
  rw [← hW3]
  clear hT1 hW3 hBx HB2 HA2 AG hgT
  go_wp2_with fail
  go_at_call 15
  refine Calls.mono HAG.out ?_
  rintro e W4 ⟨rfl, hB⟩
  have HB4 := Lib.hid (HB3.out.trans (hB.mono HB3.out.size))
  have HA4 := Lib.hid (HA3.out.below hB)
  have HT4 := Lib.hid (HT3.out.step hB)
  clear hB HAG HB3 HA3 HT3
  go_upto_region 12 with fail
  obtain ⟨T2, hT2⟩ : ∃ P, P = W4.heap.size := ⟨_, rfl⟩
  obtain ⟨W5, hW5⟩ : ∃ W, W = W4.alloc (.cells #[.int .i8 4, .int .i64 0, .int .i64 1, .int .i64 5, .int .i64 0, .int .i64 0, .int .i64 2, .int .i64 1, .int .i64 0, .int .i64 SZ, .int .i64 0, .bool false, .slice none 0 0] 31) := ⟨_, rfl⟩
  have hBx : Below W4.heap.size W4 W5 := by rw [hW5]; exact (Below.refl _ _).alloc (Nat.le_refl _) _
  have HU5 : Hid (Blk W5 T2 #[.int .i8 4, .int .i64 0, .int .i64 1, .int .i64 5, .int .i64 0, .int .i64 0, .int .i64 2, .int .i64 1, .int .i64 0, .int .i64 SZ, .int .i64 0, .bool false, .slice none 0 0] 31) := Lib.hid (by rw [hW5, hT2]; exact blk_new _ _ _)
  have HB5 := Lib.hid (HB4.out.trans (hBx.mono HB4.out.size))
  have HA5 := Lib.hid (HA4.out.below hBx)
  have HT5 := Lib.hid (HT4.out.step hBx)
  rw [← hT2]
  change Code.wp _ _ _ _ (W4.alloc (.cells #[.int .i8 4, .int .i64 0, .int .i64 1, .int .i64 5, .int .i64 0, .int .i64 0, .int .i64 2, .int .i64 1, .int .i64 0, .int .i64 SZ, .int .i64 0, .bool false, .slice none 0 0] 31))
  rw [← hW5]
  clear hT2 hW5 hBx HB4 HA4 HT4
  have tc0 : W5.cell? ⟨T1, 0, none⟩ = some (.int .i8 4) := cell_at HT5.out 0
  have uc0 : W5.cell? ⟨T2, 0, none⟩ = some (.int .i8 4) := cell_at HU5.out 0
  have tc1 : W5.cell? ⟨T1, 1, none⟩ = some (.int .i64 0) := cell_at HT5.out 1
  have uc1 : W5.cell? ⟨T2, 1, none⟩ = some (.int .i64 0) := cell_at HU5.out 1
  have tc2 : W5.cell? ⟨T1, 2, none⟩ = some (.int .i64 1) := cell_at HT5.out 2
  have uc2 : W5.cell? ⟨T2, 2, none⟩ = some (.int .i64 1) := cell_at HU5.out 2
  have tc3 : W5.cell? ⟨T1, 3, none⟩ = some (.int .i64 5) := cell_at HT5.out 3
  have uc3 : W5.cell? ⟨T2, 3, none⟩ = some (.int .i64 5) := cell_at HU5.out 3
  have tc4 : W5.cell? ⟨T1, 4, none⟩ = some (.int .i64 0) := cell_at HT5.out 4
  have uc4 : W5.cell? ⟨T2, 4, none⟩ = some (.int .i64 0) := cell_at HU5.out 4
  have tc5 : W5.cell? ⟨T1, 5, none⟩ = some (.int .i64 0) := cell_at HT5.out 5
  have uc5 : W5.cell? ⟨T2, 5, none⟩ = some (.int .i64 0) := cell_at HU5.out 5
  have tc6 : W5.cell? ⟨T1, 6, none⟩ = some (.int .i64 2) := cell_at HT5.out 6
  have uc6 : W5.cell? ⟨T2, 6, none⟩ = some (.int .i64 2) := cell_at HU5.out 6
  have tc7 : W5.cell? ⟨T1, 7, none⟩ = some (.int .i64 1) := cell_at HT5.out 7
  have uc7 : W5.cell? ⟨T2, 7, none⟩ = some (.int .i64 1) := cell_at HU5.out 7
  have tc8 : W5.cell? ⟨T1, 8, none⟩ = some (.int .i64 0) := cell_at HT5.out 8
  have uc8 : W5.cell? ⟨T2, 8, none⟩ = some (.int .i64 0) := cell_at HU5.out 8
  have tc9 : W5.cell? ⟨T1, 9, none⟩ = some (.int .i64 SZ) := cell_at HT5.out 9
  have uc9 : W5.cell? ⟨T2, 9, none⟩ = some (.int .i64 SZ) := cell_at HU5.out 9
  have tc10 : W5.cell? ⟨T1, 10, none⟩ = some (.int .i64 0) := cell_at HT5.out 10
  have uc10 : W5.cell? ⟨T2, 10, none⟩ = some (.int .i64 0) := cell_at HU5.out 10
  have tc11 : W5.cell? ⟨T1, 11, none⟩ = some (.bool false) := cell_at HT5.out 11
  have uc11 : W5.cell? ⟨T2, 11, none⟩ = some (.bool false) := cell_at HU5.out 11
  have tc12 : W5.cell? ⟨T1, 12, none⟩ = some (.slice none 0 0) := cell_at HT5.out 12
  have uc12 : W5.cell? ⟨T2, 12, none⟩ = some (.slice none 0 0) := cell_at HU5.out 12
  have CS := Lib.hid (command_same 1 5 2 1 0 SZ 0 W5)
  go_wp2_with fail
  go_at_call 25
  refine Calls.mono CS.out ?_
  rintro e W6 ⟨rfl, hB⟩
  have HB6 := Lib.hid (HB5.out.trans (hB.mono HB5.out.size))
  have HA6 := Lib.hid (HA5.out.below hB)
  have HT6 := Lib.hid (HT5.out.step hB)
  clear hB CS HB5 HA5 HT5 HU5 tc0 uc0 tc1 uc1 tc2 uc2 tc3 uc3 tc4 uc4 tc5 uc5 tc6 uc6 tc7 uc7 tc8 uc8 tc9 uc9 tc10 uc10 tc11 uc11 tc12 uc12
  obtain ⟨OV, hOV⟩ : ∃ OV, OV = SE + 1000 * TI := ⟨_, rfl⟩
  have HOV := Lib.hid hOV
  have TD := told_ok g (it1 TI SZ SE) N0 0 0 1 SZ W6 HA6.out rfl (by omega) s2a (by simp [it1]) (by simp [it1]; omega) (by simp [it1]; omega) (by simp [it1]; omega) (by simp [it1]; omega)
  change Calls _ _ _ _ (fun e w' => Fr [g] W6 w' ∧ ((max SE N0 < SE + 1000 * TI ∧ ∃ b c, e = .returned (.int .i64 0) ∧ AgAt w' g ((it1 TI SZ SE).told N0) (.one b c ⟨1, 5, SZ, SE + 1000 * TI, 0, 0⟩) ∧ W6.heap.size ≤ b) ∨ (SE + 1000 * TI ≤ max SE N0 ∧ e = .returned (.int .i64 4) ∧ AgAt w' g ((it1 TI SZ SE).told N0) (.gone none 0)))) at TD
  rw [← hOV, show max SE N0 = N0 by omega] at TD
  have HTD := Lib.hid TD
  have t2 : W6.cell? ⟨T1, 2, none⟩ = some (.int .i64 1) := cell_at HT6.out 2
  clear TD hOV
  go_upto_region 14 with fail
  go_cut [20] (fun v wx => ∃ (gv : Int) (H : Hd), v = .int .i64 gv ∧ ((N0 < OV ∧ gv = 0) ∨ (OV ≤ N0 ∧ gv = 4)) ∧ AgAt wx g ((it1 TI SZ SE).told N0) H ∧ H.st w.heap.size 5 SZ OV 0 0 ∧ Below w.heap.size w wx)
  case first =>
    go_wp2_with fail
    go_at_call 17
    refine Calls.mono HTD.out ?_
    rintro e W7 ⟨hf, hcase⟩
    have HB7 := Lib.hid (HB6.out.trans (hf.below HB6.out.size (by have := HG.out; simp; omega)))
    rcases hcase with ⟨hno, b, c, rfl, h7, hb7⟩ | ⟨hno, rfl, h7⟩
    · have HH := Lib.hid h7
      have HNO := Lib.hid hno
      have HBB := Lib.hid hb7
      clear hf h7 hno hb7
      go_wp2_with fail
      go_meet
      exact ⟨0, _, rfl, .inl ⟨HNO.out, rfl⟩, HH.out, ⟨rfl, by show SZ = SZ - 0; omega, rfl, rfl, rfl, Nat.le_trans HB6.out.size HBB.out⟩, HB7.out⟩
    · have HH := Lib.hid h7
      have HNO := Lib.hid hno
      clear hf h7 hno
      go_wp2_with fail
      go_meet
      exact ⟨4, _, rfl, .inr ⟨HNO.out, rfl⟩, HH.out, trivial, HB7.out⟩
  case rest =>
  obtain ⟨gv, H, rfl, hgv, hA7, hst7, hB7⟩ := hcut
  have HA7 := Lib.hid hA7
  have HST7 := Lib.hid hst7
  have HB7 := Lib.hid hB7
  have HGV := Lib.hid hgv
  obtain ⟨W7, hW7⟩ : ∃ W, W = wc := ⟨_, rfl⟩
  subst hW7
  clear hA7 hst7 hB7 hgv t2 HTD HB6 HA6 HT6
  go_upto_region 15 with fail
  go_cut [21] (fun v wx => v = .int .i64 OV ∧ W7 = wx)
  case first =>
    have hOV := HOV.out
    subst hOV
    clear HOV HGV HA7 HST7
    go_wp2_with fail
    go_meet
    exact ⟨rfl, rfl⟩
  case rest =>
  obtain ⟨rfl, rfl⟩ := hcut
  go_upto_region 16 with fail
  go_cut [104] (fun v wx => v = .bool false ∧ W7 = wx)
  case first =>
    rcases HGV.out with ⟨h1, rfl⟩ | ⟨h1, rfl⟩
    · have h2 : decide (N0 < OV) = true := decide_eq_true h1
      clear HGV HA7 HST7 HOV
      go_wp2_with fail
      go_meet
      exact ⟨rfl, rfl⟩
    · have h2 : decide (N0 < OV) = false := decide_eq_false (by omega)
      clear HGV HA7 HST7 HOV
      go_wp2_with fail
      go_meet
      exact ⟨rfl, rfl⟩
  case rest =>
  obtain ⟨rfl, rfl⟩ := hcut
  have HOB : Hid (OV ≤ 1101659111424 ∧ 0 ≤ OV) := Lib.hid (by have := HOV.out; omega)
  clear HGV
  go_wp2_with fail
  go_loopw [13, 22, 23] (fun v13 v22 v23 wr => ∃ (k : Nat) (NW sum : Int) (s : Ag) (H : Hd), k ≤ len ∧ v23 = .int .i64 k ∧ v13 = .int .i64 NW ∧ v22 = .int .i64 sum ∧ AgAt wr g s H ∧ s.now ≤ NW ∧ 0 ≤ NW ∧ NW ≤ 1101659111424 + 268435456 * (k : Int) ∧ 0 ≤ sum ∧ sum ≤ SZ ∧ H.st w.heap.size 5 SZ OV sum 0 ∧ Below w.heap.size w wr) (fun _ _ vi _ => len - (intOf vi).toNat)
  case atStart => exact ⟨0, N0, 0, _, H, Nat.zero_le _, rfl, rfl, rfl, HA7.out, by show max SE N0 ≤ N0; omega, by omega, by omega, by omega, by omega, HST7.out, HB7.out⟩
  case round =>
    clear HA7 HST7 HB7
    obtain ⟨k, NW, sum, s, H, hk, rfl, rfl, rfl, hA, hnw, n0, n1, u0, u1, hst, hB⟩ := hrel
    have HA := Lib.hid hA
    have HST := Lib.hid hst
    have HB := Lib.hid hB
    clear hA hst hB
    by_cases hlt : k < len
    · obtain ⟨e0, e1⟩ := (HTT.out.below HB.out).at_ (by omega)
      have ct := (HTT.out.below HB.out).cell k (by omega)
      obtain ⟨e2, e3⟩ := (HS.out.below HB.out).at_ (by omega)
      subst e0 e2
      obtain ⟨x, hx⟩ : ∃ x, x = T k := ⟨_, rfl⟩
      rw [← hx] at ct
      obtain ⟨d0, d1⟩ := wmod_bd x 268435456 (by omega) (by omega)
      obtain ⟨D, hD⟩ : ∃ D, (wrap64 (x.tmod 268435456 + 268435456)).tmod 268435456 = D := ⟨_, rfl⟩
      rw [hD] at d0 d1
      clear hx
      go_upto_region 22 with fail
      go_cut [13] (fun v wx => ∃ NW2, v = .int .i64 NW2 ∧ NW ≤ NW2 ∧ NW2 ≤ NW + 268435455 ∧ wr = wx)
      case first =>
        go_wp2_with fail
        go_meet
        exact ⟨NW + D, rfl, by omega, by omega, rfl⟩
      case rest =>
      obtain ⟨NW2, rfl, g1, g2, rfl⟩ := hcut
      clear hD d0 d1 ct
      have TK := tokens_any g s H 5 NW2 wr HA.out (HST.out.ok (by omega) u0 u1 s2b)
      have htk := HST.out.tok u1 s NW2 (by omega)
      obtain ⟨st1, st2⟩ := HST.out.tick s NW2
      have hT := tick_tick s NW2
      have hTT := Hd.tick_tick H s NW2
      have hbl := fun y hy => HST.out.bl y hy
      have hn2 : (s.tick NW2).now = NW2 := by show max s.now NW2 = NW2; omega
      obtain ⟨H1, hH1⟩ : ∃ H1, H1 = H.tick s NW2 := ⟨_, rfl⟩
      rw [← hH1] at TK htk st1 st2 hTT
      obtain ⟨s1, hs1⟩ : ∃ s1, s1 = s.tick NW2 := ⟨_, rfl⟩
      rw [← hs1] at TK hT hTT hn2
      obtain ⟨tk, htk0⟩ : ∃ tk, tk = H1.tok 5 := ⟨_, rfl⟩
      rw [← htk0] at TK htk
      obtain ⟨k1, k2, k3⟩ := htk
      have HTK := Lib.hid TK
      have HK3 := Lib.hid k3
      have HST1 := Lib.hid st1
      have HOF1 := Lib.hid st2
      have HT := Lib.hid hT
      have HTT1 := Lib.hid hTT
      have HBL := Lib.hid hbl
      have HN2 := Lib.hid hn2
      have HTK0 := Lib.hid htk0
      clear TK k3 st1 st2 hT hTT hbl hn2 hH1 hs1 htk0 HST
      go_wp2_with fail
      go_at_call 19
      refine Calls.mono HTK.out ?_
      rintro e W8 ⟨rfl, h8, hf⟩
      have HA8 := Lib.hid h8
      have HB8 := Lib.hid (HB.out.trans (hf.below HB.out.size (by
        intro y hy
        simp only [List.mem_cons] at hy
        rcases hy with e | e
        · have := HG.out; omega
        · exact HBL.out y e)))
      have SP := spend_all g s1 H1 5
      clear h8 hf HTK HA HB
      go_upto_region 24 with fail
      go_cut [136] (fun v wx => v = .bool false ∧ W8 = wx)
      case first =>
        clear SP
        rcases Int.lt_or_le NW2 OV with h1 | h1
        · have h2 : decide (OV ≤ NW2) = false := decide_eq_false (by omega)
          have h3 : decide (SZ - sum < tk) = false := decide_eq_false (by omega)
          clear HK3 HOB
          go_wp2_with fail
          go_meet
          exact ⟨rfl, rfl⟩
        · have h0 := HK3.out h1
          subst h0
          have h2 : decide (OV ≤ NW2) = true := decide_eq_true h1
          have h3 : decide (SZ - sum < 0) = false := decide_eq_false (by omega)
          clear HK3 HOB
          go_wp2_with fail
          go_meet
          exact ⟨rfl, rfl⟩
      case rest =>
      obtain ⟨rfl, rfl⟩ := hcut
      have cs := (HS.out.below HB8.out).cell k hlt
      have e4 : b1 < W8.heap.size := ((HS.out.below HB8.out).at_ (by omega)).2
      obtain ⟨y, hy⟩ : ∃ y, y = S k := ⟨_, rfl⟩
      rw [← hy] at cs
      have hz : (SZ + 1 = 0) = False := eq_false (by omega)
      clear hy
      go_upto_region 26 with fail
      go_cut [25] (fun v wx => ∃ N, v = .int .i64 N ∧ W8 = wx)
      case first =>
        clear SP
        go_wp2_with fail
        go_meet
        exact ⟨_, rfl, rfl⟩
      case rest =>
      obtain ⟨N, rfl, rfl⟩ := hcut
      clear cs hz
      have SP1 := SP N NW2 W8 HA8.out (HST1.out.ok (by omega) u0 u1 s2b) (by rw [HTT1.out]; exact HOF1.out)
      rw [HTT1.out, HT.out, ← HTK0.out] at SP1
      have hst2 := HST1.out.spX (n := N) (T := tk)
      have hbl1 := fun y hy => HST1.out.bl y hy
      obtain ⟨H2, hH2⟩ : ∃ H2, H2 = H1.spX N tk := ⟨_, rfl⟩
      rw [← hH2] at SP1 hst2
      have HSP := Lib.hid SP1
      have HST2 := Lib.hid hst2
      have HBL1 := Lib.hid hbl1
      clear SP SP1 hst2 hbl1 hH2
      go_wp2_with fail
      go_at_call 18
      refine Calls.mono HSP.out ?_
      rintro e W9 ⟨rfl, h9, hf⟩
      have HA9 := Lib.hid h9
      have HB9 := Lib.hid (HB8.out.trans (hf.below HB8.out.size (by
        intro y hy
        simp only [List.mem_cons] at hy
        rcases hy with e | e
        · have := HG.out; omega
        · exact HBL1.out y e)))
      clear h9 hf HSP HA8 HB8
      have hbd : ((k + 1 : Nat) : Int) = (k : Int) + 1 := by omega
      by_cases c1 : N < 0
      · rw [show spE N tk = 2 from if_pos c1]
        have HST3 := Lib.hid (HST2.out.2 (by omega))
        go_wp2_with fail
        go_roundw
        case rel => first | exact ⟨k + 1, NW2, sum, s1, H2, by omega, by go_num, rfl, rfl, HA9.out, by rw [HN2.out]; exact Int.le_refl _, by omega, by omega, u0, u1, HST3.out, HB9.out⟩ | ((repeat apply Exists.intro); exact ⟨⟨by omega, by go_num, rfl, rfl, HA9.out, by rw [HN2.out]; exact Int.le_refl _, by omega, by omega, u0, u1, HST3.out, HB9.out⟩, rfl⟩)
        case measure => first | (simp [intOf]; done) | (simp [intOf]; omega)
      · by_cases c2 : tk < N
        · rw [show spE N tk = 170 from (if_neg c1).trans (if_pos c2)]
          have HST3 := Lib.hid (HST2.out.2 (by omega))
          go_wp2_with fail
          go_roundw
          case rel => first | exact ⟨k + 1, NW2, sum, s1, H2, by omega, by go_num, rfl, rfl, HA9.out, by rw [HN2.out]; exact Int.le_refl _, by omega, by omega, u0, u1, HST3.out, HB9.out⟩ | ((repeat apply Exists.intro); exact ⟨⟨by omega, by go_num, rfl, rfl, HA9.out, by rw [HN2.out]; exact Int.le_refl _, by omega, by omega, u0, u1, HST3.out, HB9.out⟩, rfl⟩)
          case measure => first | (simp [intOf]; done) | (simp [intOf]; omega)
        · rw [show spE N tk = 0 from (if_neg c1).trans (if_neg c2)]
          have HST3 := Lib.hid (HST2.out.1 (by omega))
          rcases Int.lt_or_le NW2 OV with h1 | h1
          · have h2 : decide (OV ≤ NW2) = false := decide_eq_false (by omega)
            have h3 : decide (N < 0) = false := decide_eq_false c1
            go_wp2_with fail
            all_goals
              go_roundw
              case rel => first | exact ⟨k + 1, NW2, sum + N, s1, H2, by omega, by go_num, rfl, rfl, HA9.out, by rw [HN2.out]; exact Int.le_refl _, by omega, by omega, by omega, by omega, HST3.out, HB9.out⟩ | ((repeat apply Exists.intro); exact ⟨⟨by omega, by go_num, rfl, rfl, HA9.out, by rw [HN2.out]; exact Int.le_refl _, by omega, by omega, by omega, by omega, HST3.out, HB9.out⟩, rfl⟩)
              case measure => first | (simp [intOf]; done) | (simp [intOf]; omega)
          · have h0 := HK3.out h1
            obtain rfl : N = 0 := by omega
            go_wp2_with fail
            go_roundw
            case rel => first | exact ⟨k + 1, NW2, sum + 0, s1, H2, by omega, by go_num, rfl, by simp, HA9.out, by rw [HN2.out]; exact Int.le_refl _, by omega, by omega, by omega, by omega, HST3.out, HB9.out⟩ | ((repeat apply Exists.intro); exact ⟨⟨by omega, by go_num, rfl, by simp, HA9.out, by rw [HN2.out]; exact Int.le_refl _, by omega, by omega, by omega, by omega, HST3.out, HB9.out⟩, rfl⟩)
            case measure => first | (simp [intOf]; done) | (simp [intOf]; omega)
    · obtain rfl : k = len := by omega
      have h9 : decide (sum ≤ SZ) = true := decide_eq_true u1
      go_wp2_with fail
      go_at_call 23
      refine (agwakes_any _).mono ?_
      rintro e W9 ⟨rfl, hB⟩
      have HB9 := Lib.hid (HB.out.trans (hB.mono HB.out.size))
      clear hB
      go_wp2_with fail
      go_ret
      exact ⟨rfl, HB9.out⟩
end Go.Proofs.Ytlgjdiadohhleaa
