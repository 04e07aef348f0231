/-
  GrantSurely, walked.
-/
import Derived.Test.YtlgjdiadohhleaaGs4
import Derived.Deep.CutRange
namespace Go.Proofs.Ytlgjdiadohhleaa
open Go.RowKit
set_option linter.unusedSimpArgs false
set_option linter.unusedVariables false

set_option maxRecDepth 100000 in
set_option maxHeartbeats 16000000 in
theorem surely_walk (ticks rho ask made : Int) (own : Bool) (a : Option Addr) (len cap gb o : Nat) (E : Nat → SuE) (w : World) (hs : SuIn w a len cap gb o E) (r0 : 0 ≤ rho) (r1 : rho ≤ 200) (hl : len ≤ 100) (t0 : 1 ≤ ticks) (t1 : ticks ≤ 1099511627776) (ham : ask ≤ made) (mlo : -9223372036854775808 ≤ made) :
    Calls Try.prog 8 #[.int .i64 ticks, .int .i64 rho, .slice a len cap, .int .i64 ask, .int .i64 made, .bool own] w fun e w' => e = .returned (.bool true) ∧ Below w.heap.size w w' := by
  have m1 := hs.le
  have m2 := hs.max
  unfold maxLen at m2
  obtain ⟨told, htold⟩ : ∃ told, told = toldS own made := ⟨_, rfl⟩
  obtain ⟨mm, hmm⟩ : ∃ mm, mm = min made 200 := ⟨_, rfl⟩
  have ht : told = mm + if own then 1 else 0 := by rw [htold, hmm]; rfl
  have e1 : (if 200 < made then 200 else made) = mm := by rw [hmm]; split <;> omega
  have e2 : min made 200 = mm := hmm.symm
  have e3 : IntKind.i64.wrap (mm + 1) = mm + 1 := IntWalk.i64_in _ (by omega)
  have HTM := Lib.hid ht
  obtain ⟨la, hla⟩ : ∃ la, la = overS ticks rho := ⟨_, rfl⟩
  obtain ⟨Z, hZ⟩ : ∃ Z, Z = w.heap.size := ⟨_, rfl⟩
  have HS := Lib.hid hs
  have HT := Lib.hid htold
  have HLA := Lib.hid hla
  have HZ := Lib.hid hZ
  obtain ⟨W0, hW0⟩ : ∃ W0, W0 = (w.alloc (.cells #[.int .i64 0, .int .i64 0, .int .i64 rho] 136)).alloc (.cells #[.int .i64 0, .int .i64 0, .int .i64 rho] 136) := ⟨_, rfl⟩
  obtain ⟨W1, hW1⟩ : ∃ W1, W1 = (W0.alloc (.cells #[.int .i64 7, .int .i64 0, .int .i64 0, .int .i64 0, .int .i64 0, .int .i64 0, .int .i64 0] 64)).alloc (.cells #[.int .i64 0, .int .i64 0, .int .i64 0, .slice none 0 0, .slice (some ⟨Z + 2, 0, none⟩) 1 1, .slice none 0 0, .slice none 0 0] 70) := ⟨_, rfl⟩
  have hz0 : W0.heap.size = Z + 2 := by rw [hW0, hZ]; simp
  have hB0 : Below w.heap.size w W0 := by rw [hW0]; exact ((Below.refl _ _).alloc (Nat.le_refl _) _).alloc (by simp) _
  have hB1 : Below w.heap.size w W1 := by rw [hW1]; exact (hB0.alloc (by rw [hz0]; omega) _).alloc (by simp [hz0]; omega) _
  have hI1 : SurI Z own ask made told rho la 0 0 0 0 0 0 0 (.pointer none) W1 := by
    have qa : CkAt W0 Z 0 0 rho := by rw [hW0, hZ]; exact (Below.heap_alloc _ _ _ (by simp)).trans (heap_alloc_new w _)
    have qb : CkAt W0 (Z + 1) 0 0 rho := by rw [hW0, hZ, ← World.size_alloc w (.cells #[.int .i64 0, .int .i64 0, .int .i64 rho] 136)]; exact heap_alloc_new _ _
    refine ⟨?_, ?_, ⟨?_, ?_⟩, CkOk.zero r0 r1, CkOk.zero r0 r1, fun _ => rfl, by omega, by omega, by omega, by omega, fun a1 a2 _ => by omega, .inl ⟨by unfold hasD; cases own <;> first | (simp; done) | (simp; omega), rfl⟩⟩
    · rw [hW1]
      exact (Below.heap_alloc _ _ _ (by simp [hz0]; omega)).trans ((Below.heap_alloc _ _ _ (by rw [hz0]; omega)).trans qa)
    · rw [hW1]
      exact (Below.heap_alloc _ _ _ (by simp [hz0])).trans ((Below.heap_alloc _ _ _ (by rw [hz0]; omega)).trans qb)
    · rw [hW1, ← hz0]
      refine (Below.heap_alloc _ _ _ (by simp)).trans ?_
      exact blk_new W0 _ _
    · rw [hW1, ← hz0]
      have h := blk_new (W0.alloc (.cells #[.int .i64 7, .int .i64 0, .int .i64 0, .int .i64 0, .int .i64 0, .int .i64 0, .int .i64 0] 64)) #[.int .i64 0, .int .i64 0, .int .i64 0, .slice none 0 0, .slice (some ⟨W0.heap.size, 0, none⟩) 1 1, .slice none 0 0, .slice none 0 0] 70
      rw [World.size_alloc] at h
      exact h
  have HI1 := Lib.hid hI1
  have HB1 := Lib.hid hB1
  have HZ0 := Lib.hid hz0
  have HW0 := Lib.hid hW0
  have HW1 := Lib.hid hW1
  clear hs htold hla ht hmm hB0 hB1 hI1 hW1 hz0 hW0 hZ
  go_enter Try.func8, Try.ntmps8
  go_upto_if 65 with (first
    | (go_at_call 36; refine (new_ok _ r0 r1 _).mono ?_; rintro e w' ⟨rfl, rfl⟩))
  rw [← HZ.out, ← HW0.out]
  go_cut [20] (fun v wx => v = .int .i64 told ∧ W0 = wx)
  case first =>
    have HTM2 := HTM.out
    clear HTM
    cases own
    · obtain rfl : told = mm := by simpa using HTM2
      clear HTM2
      go_wp2_with fail
      go_meet
      exact ⟨rfl, rfl⟩
    · obtain rfl : told = mm + 1 := by simpa using HTM2
      clear HTM2
      go_wp2_with fail
      go_meet
      exact ⟨rfl, rfl⟩
  case rest =>
  obtain ⟨rfl, rfl⟩ := hcut
  clear e1 e2 e3 HTM
  have hz0 := HZ0.out
  go_wp2_with fail
  try rw [hz0]
  rw [← HW1.out]
  clear hz0
  have hdc : decide (100 < (len : Int)) = false := by simp; omega
  try rw [hdc]
  clear hdc
  go_loopw [17, 18, 19, 73] (fun vd vs vr vi wr => ∃ (k : Nat) (A B T sent read : Int) (vq : Value), k ≤ len ∧ vi = .int .i64 k ∧ vs = .int .i64 sent ∧ vr = .int .i64 read ∧ vq = vd ∧ SurI Z own ask made told rho la k k A B T sent read vq wr ∧ Below w.heap.size w wr) (fun _ _ _ vi _ => len - (intOf vi).toNat)
  case atStart => exact ⟨0, 0, 0, 0, 0, 0, _, Nat.zero_le _, rfl, rfl, rfl, rfl, HI1.out, HB1.out⟩
  case round =>
    clear HI1 HB1 HW0 HW1 HZ0
    obtain ⟨k, A, B, T, sent, read, vd, hk, rfl, rfl, rfl, rfl, hI, hB⟩ := hrel
    by_cases hlt : k < len
    · obtain ⟨X, hX⟩ : ∃ X, X = wr.heap.size := ⟨_, rfl⟩
      have hsr := HS.out.below hB
      obtain ⟨e0, e3⟩ := hsr.at_ (by omega)
      subst e0
      obtain ⟨c0, c1, c2⟩ := hsr.cell k hlt
      obtain ⟨x, hx⟩ : ∃ x, x = E k := ⟨_, rfl⟩
      rw [← hx] at c0 c1 c2
      obtain ⟨W2, hW2⟩ : ∃ W2, W2 = wr.alloc (.cells #[.int .i64 x.ticks, .int .i64 x.leader, .int .i64 x.shaper] 81) := ⟨_, rfl⟩
      have hBx : Below wr.heap.size wr W2 := by rw [hW2]; exact (Below.refl _ _).alloc (Nat.le_refl _) _
      have hK2 : Blk W2 X #[.int .i64 x.ticks, .int .i64 x.leader, .int .i64 x.shaper] 81 := by rw [hW2, hX]; exact blk_new _ _ _
      have HI2 := Lib.hid (hI.below hBx)
      have HK2 := Lib.hid hK2
      have HB2 := Lib.hid (hB.trans (hBx.mono hB.size))
      have HXZ : Hid (Z + 4 ≤ X ∧ w.heap.size ≤ X) := Lib.hid ⟨by have := hI.st.st.lt; omega, by rw [hX]; exact hB.size⟩
      have hkL : k < 100 := by omega
      clear hI hB hsr hx hBx hK2
      go_upto_region 13 with fail
      rw [← hX, ← hW2]
      clear hX hW2 c0 c1 c2 e3
      obtain ⟨z1, hz1⟩ : ∃ z1, ((k : Int) == made) = z1 := ⟨_, rfl⟩
      obtain ⟨z0, hz0⟩ : ∃ z0, ((k : Int) == 0) = z0 := ⟨_, rfl⟩
      obtain ⟨z2, hz2⟩ : ∃ z2, ((k : Int) == told) = z2 := ⟨_, rfl⟩
      have HZ1 : Hid ((z1 = true → (k : Int) = made) ∧ (z1 = false → ¬ (k : Int) = made)) := Lib.hid (by rw [← hz1]; simp)
      have HZ2 : Hid ((z2 = true → (k : Int) = told) ∧ (z2 = false → ¬ (k : Int) = told)) := Lib.hid (by rw [← hz2]; simp)
      have HZ3 : Hid ((z0 = true → k = 0) ∧ (z0 = false → ¬ k = 0)) := Lib.hid (by rw [← hz0]; simp)
      go_upto_if 80 with fail
      go_cut [18] (fun vs wx => ∃ sent', vs = .int .i64 sent' ∧ SurI Z own ask made told rho la k k A B T sent' read vd wx ∧ W2 = wx)
      case first =>
        clear hz1 hz0 hz2 HZ1 HZ2 HZ3
        by_cases hk1 : (k : Int) = ask
        · subst hk1
          go_wp2_with fail
          go_at_call 37
          refine (now_any (Z + 1) B T rho _ HI2.out.b).mono ?_
          rintro e w' ⟨rfl, rfl⟩
          go_wp2_with fail
          go_meet
          exact ⟨B, rfl, HI2.out.sent (by omega), rfl⟩
        · have hk2 : ((k : Int) == ask) = false := by rw [beq_eq_false_iff_ne]; exact hk1
          go_wp2_with fail
          go_meet
          exact ⟨sent, rfl, HI2.out, rfl⟩
      case rest =>
      obtain ⟨snt, rfl, hI3, rfl⟩ := hcut
      have HI3 := Lib.hid hI3
      clear hI3 HI2
      obtain ⟨c5, hc5⟩ : ∃ c5, c5 = (z1 || (z0 && own)) := ⟨_, rfl⟩
      have HC5 := Lib.hid hc5
      clear hc5
      go_upto_region 15 with fail
      go_cut [92] (fun v wx => v = .bool c5 ∧ W2 = wx)
      case first =>
        have hc5 := HC5.out
        clear HC5 HZ1 HZ2 HZ3 hz2 HI3 HK2 HB2 HXZ HS HT HLA HZ
        subst hc5
        cases z1
        all_goals cases z0
        all_goals cases own
        all_goals
          go_wp2_with fail
          go_meet
          exact ⟨rfl, rfl⟩
      case rest =>
      obtain ⟨rfl, rfl⟩ := hcut
      go_upto_if 92 with fail
      go_cut [17] (fun vq wx => SurM Z own ask made told rho la k A B T snt read vq wx ∧ Blk wx X #[.int .i64 x.ticks, .int .i64 x.leader, .int .i64 x.shaper] 81 ∧ Below w.heap.size w wx)
      case first =>
        clear hz1 hz0 hz2 HZ2 HT
        have hc5 := HC5.out
        clear HC5
        cases c5
        · have hnm : ¬ (own = true ∧ k = 0) ∧ ¬ (own = false ∧ (k : Int) = made) := by
            cases z1
            · refine ⟨fun h => ?_, fun h => HZ1.out.2 rfl h.2⟩
              cases z0
              · exact HZ3.out.2 rfl h.2
              · rw [h.1] at hc5; cases hc5
            · cases hc5
          clear hc5 HZ1 HZ3
          go_wp2_with fail
          go_meet
          exact ⟨.inl ⟨hnm.1, hnm.2, HI3.out⟩, HK2.out, HB2.out⟩
        · have HMK : Hid ((k : Int) = made ∨ (k = 0 ∧ own = true)) := Lib.hid (by
            cases z1
            · cases z0
              · cases hc5
              · exact .inr ⟨HZ3.out.1 rfl, by simpa using hc5.symm⟩
            · exact .inl (HZ1.out.1 rfl))
          have GN := Lib.hid (gnew_ok ticks rho A t0 t1 r0 r1 HI3.out.oka.bd.1 W2)
          rw [← HLA.out] at GN
          clear hc5 HZ1 HZ3
          rcases HI3.out.desk with ⟨hnd, rfl⟩ | ⟨hhd, g9, b9, now9, rfl, hd9⟩
          · have HND := Lib.hid hnd
            clear hnd
            go_wp2_with (first
              | (go_at_call 37; refine (now_any Z A T rho _ HI3.out.a).mono ?_; rintro e w' ⟨rfl, rfl⟩)
              | (go_at_call 27; refine Calls.mono GN.out ?_; rintro e W5 ⟨g, b, rfl, hd5, hg5, hb5, hB5⟩))
            have hzz := HI3.out.st.st.lt
            have HB5 := Lib.hid (HB2.out.trans (hB5.mono HB2.out.size))
            have HK5 := Lib.hid (HK2.out.step hB5)
            have HI5 := Lib.hid (HI3.out.below hB5)
            have HD5 : Hid (DkIn W5 g b A A la (fun _ => none) ∧ Z + 4 ≤ g ∧ Z + 4 ≤ b) := Lib.hid ⟨hd5, by omega, by omega⟩
            go_meet
            refine ⟨.inr ⟨?_, g, b, _, rfl, HI5.out, HD5.out⟩, HK5.out, HB5.out⟩
            have h1 := HND.out
            unfold hasD at h1
            rcases HMK.out with h2 | ⟨h2, h3⟩
            · cases own
              · exact .inr ⟨rfl, h2⟩
              · simp at h1
                exact .inl ⟨rfl, by omega⟩
            · exact .inl ⟨h3, h2⟩
          · have HHD := Lib.hid hhd
            clear hhd hd9
            go_wp2_with (first
              | (go_at_call 37; refine (now_any Z A T rho _ HI3.out.a).mono ?_; rintro e w' ⟨rfl, rfl⟩)
              | (go_at_call 27; refine Calls.mono GN.out ?_; rintro e W5 ⟨g, b, rfl, hd5, hg5, hb5, hB5⟩))
            have hzz := HI3.out.st.st.lt
            have HB5 := Lib.hid (HB2.out.trans (hB5.mono HB2.out.size))
            have HK5 := Lib.hid (HK2.out.step hB5)
            have HI5 := Lib.hid (HI3.out.below hB5)
            have HD5 : Hid (DkIn W5 g b A A la (fun _ => none) ∧ Z + 4 ≤ g ∧ Z + 4 ≤ b) := Lib.hid ⟨hd5, by omega, by omega⟩
            go_meet
            refine ⟨.inl ⟨fun h => ?_, fun h => ?_, HI5.out⟩, HK5.out, HB5.out⟩
            · have h1 := HHD.out
              unfold hasD at h1
              rw [h.1] at h1
              simp at h1
              omega
            · have h1 := HHD.out
              unfold hasD at h1
              rw [h.1] at h1
              simp at h1
              omega
      case rest =>
      obtain ⟨hM4, hK4, hB4⟩ := hcut
      have HM4 := Lib.hid hM4
      have HK4 := Lib.hid hK4
      have HB4 := Lib.hid hB4
      clear hM4 hK4 hB4 HI3 HK2 HB2 HC5 hz0 HZ3
      obtain ⟨W4, hW4⟩ : ∃ W4, W4 = wc := ⟨_, rfl⟩
      subst hW4
      go_upto_if 108 with fail
      go_cut [19] (fun v wx => ∃ rd, v = .int .i64 rd ∧ SurI Z own ask made told rho la (k + 1) k A B T snt rd u17 wx ∧ W4 = wx)
      case first =>
        have MA := Lib.hid HM4.out.a
        cases z1
        · have hz := HZ1.out.2 rfl
          have HN := Lib.hid hz
          clear hz HZ1
          go_wp2_with fail
          go_meet
          exact ⟨read, rfl, HM4.out.read HT.out hkL read (.inr ⟨HN.out, rfl⟩), rfl⟩
        · have hz := HZ1.out.1 rfl
          have HN := Lib.hid hz
          clear hz HZ1
          go_wp2_with fail
          go_at_call 37
          refine (now_any Z A T rho _ MA.out).mono ?_
          rintro e w' ⟨rfl, rfl⟩
          go_wp2_with fail
          go_meet
          exact ⟨A, rfl, HM4.out.read HT.out hkL A (.inl ⟨HN.out, rfl⟩), rfl⟩
      case rest =>
      obtain ⟨rd, rfl, hI5, rfl⟩ := hcut
      have HI5 := Lib.hid hI5
      clear hI5 HM4 hz1 HZ1
      obtain ⟨c6, hc6⟩ : ∃ c6, c6 = (z2 && own) := ⟨_, rfl⟩
      have HC6 := Lib.hid hc6
      clear hc6
      go_upto_region 23 with fail
      go_cut [116] (fun v wx => v = .bool c6 ∧ W4 = wx)
      case first =>
        have hc6 := HC6.out
        clear HC6 HZ2 HI5 HK4 HB4 HXZ HS HT HLA HZ
        subst hc6
        cases z2
        all_goals cases own
        all_goals
          go_wp2_with fail
          go_meet
          exact ⟨rfl, rfl⟩
      case rest =>
      obtain ⟨rfl, rfl⟩ := hcut
      clear hz2
      go_upto_if 116 with fail
      go_cut [] (fun wx => SurI Z own ask made told rho la (k + 1) (k + 1) A B T snt rd u17 wx ∧ Blk wx X #[.int .i64 x.ticks, .int .i64 x.leader, .int .i64 x.shaper] 81 ∧ Below w.heap.size w wx)
      case first =>
        have hc6 := HC6.out
        clear HC6
        cases c6
        · have hno : ¬ (own = true ∧ told = (k : Int)) := fun h => by
            cases z2
            · exact HZ2.out.2 rfl h.2.symm
            · rw [h.1] at hc6; cases hc6
          have HNO := Lib.hid hno
          clear hno hc6
          go_wp2_with fail
          go_meet
          exact ⟨HI5.out.hush HNO.out, HK4.out, HB4.out⟩
        · have hyes : own = true ∧ told = (k : Int) := by
            cases z2
            · cases hc6
            · exact ⟨by simpa using hc6.symm, (HZ2.out.1 rfl).symm⟩
          obtain ⟨hown, htk⟩ := hyes
          subst hown
          obtain ⟨hh, g9, b9, now, hv9, hd9, hn9, he9, hg9, hb9⟩ := HI5.out.desk.resolve_left (fun h => h.1 (by unfold hasD; simp))
          have HH := Lib.hid hh
          have HN9 := Lib.hid (And.intro hn9 (And.intro he9 (And.intro hg9 hb9)))
          have HD9 := Lib.hid hd9
          have HTK := Lib.hid htk
          have hbA := HI5.out.oka.bd
          have hbR := HI5.out.r0
          have hbR1 := HI5.out.r1
          subst hv9
          clear hh hn9 he9 hg9 hb9 hd9 htk hc6 HZ2
          have hel : elS true rd = 0 := rfl
          have OV := Lib.hid (suOver true told (k : Int) rd (elS true rd) now la A (Z + 2) g9 b9 W4.drew (HI5.out.st.below (belowN (Below.refl W4.heap.size W4) 1)) (by have := HN9.out; omega) (HD9.out.below (belowN (Below.refl W4.heap.size W4) 1)) (by have := HN9.out; omega) (by have := HN9.out; omega) hbA.1 hbA.2.2 (by rw [hel]; omega) HN9.out.2.1 hbR (by omega))
          have hmx : max now A = A := by have := HN9.out; omega
          rw [hmx] at OV
          have NW := Lib.hid (now_any Z A T rho W4.drew (HI5.out.below (belowN (Below.refl W4.heap.size W4) 1)).a)
          have HST := Lib.hid (HI5.out.below (belowN (Below.refl W4.heap.size W4) 1)).st.st
          clear hmx hel
          go_upto_region 24 with fail
          refine wp_region_held_drew (S := fun Y => Y.cell? ⟨Z + 2 + 1, 0, none⟩ = some (.int .i64 0) ∧ Y.cell? ⟨Z + 2 + 1, 1, none⟩ = some (.int .i64 0) ∧ Y.cell? ⟨Z + 2 + 1, 2, none⟩ = some (.int .i64 0) ∧ Y.cell? ⟨Z + 2 + 1, 3, none⟩ = some (.slice none 0 0) ∧ Y.cell? ⟨Z + 2 + 1, 4, none⟩ = some (.slice (some ⟨Z + 2, 0, none⟩) 1 1) ∧ Y.cell? ⟨Z + 2 + 1, 5, none⟩ = some (.slice none 0 0) ∧ Y.cell? ⟨Z + 2 + 1, 6, none⟩ = some (.slice none 0 0)) (by kernel_rfl) ⟨cell_at HST.out 0, cell_at HST.out 1, cell_at HST.out 2, cell_at HST.out 3, cell_at HST.out 4, cell_at HST.out 5, cell_at HST.out 6⟩ (fun hHeld => ?_)
          try simp only [Act.put, List.setIfInBounds_toArray, List.set_cons_zero, List.set_cons_succ]
          ((refine wpAnyH_take (i := 0) (v := ?_) (by (simp only [List.getElem?_toArray, List.getElem?_cons_succ, List.getElem?_cons_zero]); rfl) (by kernel_rfl) (by kernel_rfl) (by kernel_rfl) (by exact fun _ _ _ h => h) (Or.inl ⟨by rfl, ?_⟩) (by assumption) ?_); rotate_left; focus (intro wS hSw; (try dsimp only at hSw); go_simp; first | done | with_reducible rfl); try simp only [Act.put, List.setIfInBounds_toArray, List.set_cons_zero, List.set_cons_succ])
          ((refine wpAnyH_take (i := 1) (v := ?_) (by (simp only [List.getElem?_toArray, List.getElem?_cons_succ, List.getElem?_cons_zero]); rfl) (by kernel_rfl) (by kernel_rfl) (by kernel_rfl) (by exact fun _ _ _ h => h) (Or.inl ⟨by rfl, ?_⟩) (by assumption) ?_); rotate_left; focus (intro wS hSw; (try dsimp only at hSw); go_simp; first | done | with_reducible rfl); try simp only [Act.put, List.setIfInBounds_toArray, List.set_cons_zero, List.set_cons_succ])
          ((refine wpAnyH_take (i := 2) (v := ?_) (by (simp only [List.getElem?_toArray, List.getElem?_cons_succ, List.getElem?_cons_zero]); rfl) (by kernel_rfl) (by kernel_rfl) (by kernel_rfl) (by exact fun _ _ _ h => h) (Or.inl ⟨by rfl, ?_⟩) (by assumption) ?_); rotate_left; focus (intro wS hSw; (try dsimp only at hSw); go_simp; first | done | with_reducible rfl); try simp only [Act.put, List.setIfInBounds_toArray, List.set_cons_zero, List.set_cons_succ])
          ((refine wpAnyH_ready (rs := [3]) (by kernel_rfl) (by simp) ?_); (refine AllReadyH.cons (by (simp only [List.getElem?_toArray, List.getElem?_cons_succ, List.getElem?_cons_zero]); rfl) (fun K hK => ?_) AllReadyH.nil); go_simp; refine Calls.mono NW.out ?_)
          rintro e w' ⟨rfl, rfl⟩
          go_wp2_with fail
          refine hK.out _ _ ⟨cell_at HST.out 0, cell_at HST.out 1, cell_at HST.out 2, cell_at HST.out 3, cell_at HST.out 4, cell_at HST.out 5, cell_at HST.out 6⟩ (fun hHeld => ?_)
          clear hK K
          try simp only [Act.put, List.setIfInBounds_toArray, List.set_cons_zero, List.set_cons_succ]
          ((refine wpAnyH_ready (rs := [4]) (by kernel_rfl) (by simp) ?_); (refine AllReadyH.cons (by (simp only [List.getElem?_toArray, List.getElem?_cons_succ, List.getElem?_cons_zero]); rfl) (fun K hK => ?_) AllReadyH.nil); go_simp; refine Calls.mono OV.out ?_)
          rintro e W10 ⟨a10, n10, c10, rfl, hn10, hd10, hf10⟩
          have hf9 : Fr [g9, b9] W4 W10 := by
            have := hf10.mono (l' := [g9, b9]) (by simp)
            exact ⟨this.os, this.tape, this.output, this.size, this.block⟩
          have hrt : elS true rd ≤ rd := hbR
          have MD := Lib.hid (made_ok 7 rd g9 b9 (elS true rd) A la _ W10 hd10 (by omega) hrt)
          have HD10 := Lib.hid hd10
          have HF9 := Lib.hid hf9
          have HSX := Lib.hid (HI5.out.st.fr hf9 (by have := HN9.out; simp; omega) (by have := HN9.out; simp; omega)).st
          have hK10 := (hf9.block X HK4.out.lt (HD9.out.apart HK4.out)).trans HK4.out
          have HK10 := Lib.hid hK10
          clear hn10 hd10 hf10 hf9 hrt hK10 OV NW HST
          go_wp2_with fail
          refine hK.out _ _ ⟨cell_at HSX.out 0, cell_at HSX.out 1, cell_at HSX.out 2, cell_at HSX.out 3, cell_at HSX.out 4, cell_at HSX.out 5, cell_at HSX.out 6⟩ (fun hHeld => ?_)
          clear hK K
          try simp only [Act.put, List.setIfInBounds_toArray, List.set_cons_zero, List.set_cons_succ]
          refine wpAnyH_done (by kernel_rfl) ?_ _
          clear hHeld
          go_wp2_with fail
          go_at_call 29
          refine Calls.mono MD.out ?_
          rintro e W11 ⟨rfl, hd11, hf11⟩
          have hm2 : max A rd = A := by omega
          rw [hm2, mf_made HTK.out] at hd11
          have hf12 := HF9.out.trans hf11 (by simp)
          have hZN : w.heap.size = Z := HZ.out.symm
          have hR := HI5.out.redesk HH.out hf12 hd11 (Int.le_refl _) (by have := HN9.out; omega) HN9.out.2.2.1 HN9.out.2.2.2
          have HR := Lib.hid hR
          have HK11 := Lib.hid ((hf12.block X HK4.out.lt (HD9.out.apart HK4.out)).trans HK4.out)
          have HB11 := Lib.hid (HB4.out.trans (hf12.below HB4.out.size (by have := HN9.out; simp; omega)))
          clear hm2 hd11 hf11 hf12 hZN hR
          go_wp2_with fail
          go_meet
          exact ⟨HR.out, HK11.out, HB11.out⟩
      case rest =>
      obtain ⟨hI6, hK6, hB6⟩ := hcut
      obtain ⟨W5, hW5⟩ : ∃ W5, W5 = wc := ⟨_, rfl⟩
      subst hW5
      have Bz := belowN (Below.refl W5.heap.size W5) 1
      have HI6 : Hid (SurI Z own ask made told rho la (k + 1) (k + 1) A B T snt rd u17 W5.drew) := Lib.hid (hI6.below Bz)
      have HK6 : Hid (Blk W5.drew X #[.int .i64 x.ticks, .int .i64 x.leader, .int .i64 x.shaper] 81) := Lib.hid (hK6.step Bz)
      have HB6 : Hid (Below w.heap.size w W5.drew) := Lib.hid (hB6.trans (Bz.mono hB6.size))
      clear hI6 hK6 hB6 Bz HI5 HK4 HB4 HC6 HZ2
      go_upto_region 27 with fail
      refine wp_region_held_drew (S := fun Y => Y.cell? ⟨X, 0, none⟩ = some (.int .i64 x.ticks) ∧ Y.cell? ⟨X, 1, none⟩ = some (.int .i64 x.leader) ∧ Y.cell? ⟨X, 2, none⟩ = some (.int .i64 x.shaper)) (by kernel_rfl) ⟨cell_at HK6.out 0, cell_at HK6.out 1, cell_at HK6.out 2⟩ (fun hHeld => ?_)
      try simp only [Act.put, List.setIfInBounds_toArray, List.set_cons_zero, List.set_cons_succ]
      ((refine wpAnyH_take (i := 0) (v := ?_) (by (simp only [List.getElem?_toArray, List.getElem?_cons_succ, List.getElem?_cons_zero]); rfl) (by kernel_rfl) (by kernel_rfl) (by kernel_rfl) (by exact fun _ _ _ h => h) (Or.inl ⟨by rfl, ?_⟩) (by assumption) ?_); rotate_left; focus (intro wS hSw; (try dsimp only at hSw); go_simp; first | done | with_reducible rfl); try simp only [Act.put, List.setIfInBounds_toArray, List.set_cons_zero, List.set_cons_succ])
      ((refine wpAnyH_take (i := 1) (v := ?_) (by (simp only [List.getElem?_toArray, List.getElem?_cons_succ, List.getElem?_cons_zero]); rfl) (by kernel_rfl) (by kernel_rfl) (by kernel_rfl) (by exact fun _ _ _ h => h) (Or.inl ⟨by rfl, ?_⟩) (by assumption) ?_); rotate_left; focus (intro wS hSw; (try dsimp only at hSw); go_simp; first | done | with_reducible rfl); try simp only [Act.put, List.setIfInBounds_toArray, List.set_cons_zero, List.set_cons_succ])
      ((refine wpAnyH_take (i := 2) (v := ?_) (by (simp only [List.getElem?_toArray, List.getElem?_cons_succ, List.getElem?_cons_zero]); rfl) (by kernel_rfl) (by kernel_rfl) (by kernel_rfl) (by exact fun _ _ _ h => h) (Or.inl ⟨by rfl, ?_⟩) (by assumption) ?_); rotate_left; focus (intro wS hSw; (try dsimp only at hSw); go_simp; first | done | with_reducible rfl); try simp only [Act.put, List.setIfInBounds_toArray, List.set_cons_zero, List.set_cons_succ])
      ((refine wpAnyH_take (i := 3) (v := ?_) (by (simp only [List.getElem?_toArray, List.getElem?_cons_succ, List.getElem?_cons_zero]); rfl) (by kernel_rfl) (by kernel_rfl) (by kernel_rfl) (by exact fun _ _ _ h => h) (Or.inl ⟨by rfl, ?_⟩) (by assumption) ?_); rotate_left; focus (intro wS hSw; (try dsimp only at hSw); go_simp; first | done | with_reducible rfl); try simp only [Act.put, List.setIfInBounds_toArray, List.set_cons_zero, List.set_cons_succ])
      ((refine wpAnyH_take (i := 4) (v := ?_) (by (simp only [List.getElem?_toArray, List.getElem?_cons_succ, List.getElem?_cons_zero]); rfl) (by kernel_rfl) (by kernel_rfl) (by kernel_rfl) (by exact fun _ _ _ h => h) (Or.inl ⟨by rfl, ?_⟩) (by assumption) ?_); rotate_left; focus (intro wS hSw; (try dsimp only at hSw); go_simp; first | done | with_reducible rfl); try simp only [Act.put, List.setIfInBounds_toArray, List.set_cons_zero, List.set_cons_succ])
      ((refine wpAnyH_take (i := 6) (v := ?_) (by (simp only [List.getElem?_toArray, List.getElem?_cons_succ, List.getElem?_cons_zero]); rfl) (by kernel_rfl) (by kernel_rfl) (by kernel_rfl) (by exact fun _ _ _ h => h) (Or.inl ⟨by rfl, ?_⟩) (by assumption) ?_); rotate_left; focus (intro wS hSw; (try dsimp only at hSw); go_simp; first | done | with_reducible rfl); try simp only [Act.put, List.setIfInBounds_toArray, List.set_cons_zero, List.set_cons_succ])
      ((refine wpAnyH_take (i := 7) (v := ?_) (by (simp only [List.getElem?_toArray, List.getElem?_cons_succ, List.getElem?_cons_zero]); rfl) (by kernel_rfl) (by kernel_rfl) (by kernel_rfl) (by exact fun _ _ _ h => h) (Or.inl ⟨by rfl, ?_⟩) (by assumption) ?_); rotate_left; focus (intro wS hSw; (try dsimp only at hSw); go_simp; first | done | with_reducible rfl); try simp only [Act.put, List.setIfInBounds_toArray, List.set_cons_zero, List.set_cons_succ])
      ((refine wpAnyH_take (i := 8) (v := ?_) (by (simp only [List.getElem?_toArray, List.getElem?_cons_succ, List.getElem?_cons_zero]); rfl) (by kernel_rfl) (by kernel_rfl) (by kernel_rfl) (by exact fun _ _ _ h => h) (Or.inl ⟨by rfl, ?_⟩) (by assumption) ?_); rotate_left; focus (intro wS hSw; (try dsimp only at hSw); go_simp; first | done | with_reducible rfl); try simp only [Act.put, List.setIfInBounds_toArray, List.set_cons_zero, List.set_cons_succ])
      ((refine wpAnyH_take (i := 9) (v := ?_) (by (simp only [List.getElem?_toArray, List.getElem?_cons_succ, List.getElem?_cons_zero]); rfl) (by kernel_rfl) (by kernel_rfl) (by kernel_rfl) (by exact fun _ _ _ h => h) (Or.inl ⟨by rfl, ?_⟩) (by assumption) ?_); rotate_left; focus (intro wS hSw; (try dsimp only at hSw); go_simp; first | done | with_reducible rfl); try simp only [Act.put, List.setIfInBounds_toArray, List.set_cons_zero, List.set_cons_succ])
      ((refine wpAnyH_take (i := 10) (v := ?_) (by (simp only [List.getElem?_toArray, List.getElem?_cons_succ, List.getElem?_cons_zero]); rfl) (by kernel_rfl) (by kernel_rfl) (by kernel_rfl) (by exact fun _ _ _ h => h) (Or.inl ⟨by rfl, ?_⟩) (by assumption) ?_); rotate_left; focus (intro wS hSw; (try dsimp only at hSw); go_simp; first | done | with_reducible rfl); try simp only [Act.put, List.setIfInBounds_toArray, List.set_cons_zero, List.set_cons_succ])
      have ST1 := Lib.hid (step_any Z A T rho x.ticks x.leader W5.drew HI6.out.a HI6.out.oka)
      ((refine wpAnyH_ready (rs := [5]) (by kernel_rfl) (by simp) ?_); (refine AllReadyH.cons (by (simp only [List.getElem?_toArray, List.getElem?_cons_succ, List.getElem?_cons_zero]); rfl) (fun K hK => ?_) AllReadyH.nil); go_simp; refine Calls.mono ST1.out ?_)
      rintro e W7 ⟨rfl, hf7, ha7⟩
      have HK7 : Hid (Blk W7 X #[.int .i64 x.ticks, .int .i64 x.leader, .int .i64 x.shaper] 81) := Lib.hid ((hf7.block X HK6.out.lt (by have := HXZ.out; simp; omega)).trans HK6.out)
      have hb7 : CkAt W7 (Z + 1) B T rho := (hf7.block (Z + 1) (lt_of_block HI6.out.b) (by simp)).trans HI6.out.b
      have ST2 := Lib.hid (step_any (Z + 1) B T rho x.ticks x.shaper W7 hb7 HI6.out.okb)
      have HF7 := Lib.hid hf7
      have HA7 := Lib.hid ha7
      clear hf7 ha7 hb7 HK6 ST1
      obtain ⟨EE, hEE⟩ : ∃ EE, EE = stepE T x.ticks := ⟨_, rfl⟩
      rw [← hEE] at ST2
      first | rw [← hEE] | skip
      clear hEE
      go_wp2_with fail
      refine hK.out _ _ ⟨cell_at HK7.out 0, cell_at HK7.out 1, cell_at HK7.out 2⟩ (fun hHeld => ?_)
      clear hK K
      try simp only [Act.put, List.setIfInBounds_toArray, List.set_cons_zero, List.set_cons_succ]
      ((refine wpAnyH_ready (rs := [11]) (by kernel_rfl) (by simp) ?_); (refine AllReadyH.cons (by (simp only [List.getElem?_toArray, List.getElem?_cons_succ, List.getElem?_cons_zero]); rfl) (fun K hK => ?_) AllReadyH.nil); go_simp; refine Calls.mono ST2.out ?_)
      rintro e W8 ⟨rfl, hf8, hb8⟩
      have hf68 : Fr [Z, Z + 1] W5.drew W8 := (HF7.out.mono (l' := [Z, Z + 1]) (by simp)).trans hf8 (by simp)
      have hZN : w.heap.size = Z := HZ.out.symm
      have HB8 := Lib.hid (HB6.out.trans (hf68.below HB6.out.size (by simp; omega)))
      have HI8 := Lib.hid (HI6.out.step x.ticks x.leader x.shaper hf68 ((hf8.block Z (lt_of_block HA7.out) (by simp)).trans HA7.out) hb8)
      have HK8 : Hid (Blk W8 X #[.int .i64 x.ticks, .int .i64 x.leader, .int .i64 x.shaper] 81) := Lib.hid ((hf8.block X HK7.out.lt (by have := HXZ.out; simp; omega)).trans HK7.out)
      clear hf68 hf8 hb8 hZN HF7 HA7 HI6 HB6 ST2 HK7
      obtain ⟨A2, hA2⟩ : ∃ A2, A2 = stepN A T rho x.ticks x.leader := ⟨_, rfl⟩
      obtain ⟨B2, hB2⟩ : ∃ B2, B2 = stepN B T rho x.ticks x.shaper := ⟨_, rfl⟩
      obtain ⟨T2, hT2⟩ : ∃ T2, T2 = stepT T x.ticks := ⟨_, rfl⟩
      rw [← hA2, ← hB2, ← hT2] at HI8
      clear hA2 hB2 hT2
      go_wp2_with fail
      refine hK.out _ _ ⟨cell_at HK8.out 0, cell_at HK8.out 1, cell_at HK8.out 2⟩ (fun hHeld => ?_)
      clear hK K
      try simp only [Act.put, List.setIfInBounds_toArray, List.set_cons_zero, List.set_cons_succ]
      ((refine wpAnyH_take (i := 12) (v := ?_) (by (simp only [List.getElem?_toArray, List.getElem?_cons_succ, List.getElem?_cons_zero]); rfl) (by kernel_rfl) (by kernel_rfl) (by kernel_rfl) (by exact fun _ _ _ h => h) (Or.inl ⟨by rfl, ?_⟩) (by assumption) ?_); rotate_left; focus (intro wS hSw; (try dsimp only at hSw); go_simp; first | done | with_reducible rfl); try simp only [Act.put, List.setIfInBounds_toArray, List.set_cons_zero, List.set_cons_succ])
      ((refine wpAnyH_take (i := 13) (v := ?_) (by (simp only [List.getElem?_toArray, List.getElem?_cons_succ, List.getElem?_cons_zero]); rfl) (by kernel_rfl) (by kernel_rfl) (by kernel_rfl) (by exact fun _ _ _ h => h) (Or.inl ⟨by rfl, ?_⟩) (by assumption) ?_); rotate_left; focus (intro wS hSw; (try dsimp only at hSw); go_simp; first | done | with_reducible rfl); try simp only [Act.put, List.setIfInBounds_toArray, List.set_cons_zero, List.set_cons_succ])
      refine wpAnyH_done (by kernel_rfl) ?_ _
      clear hHeld HK8 HXZ
      go_upto_region 30 with fail
      go_cut [173] (fun v wx => v = .bool false ∧ SurI Z own ask made told rho la (k + 1) (k + 1) A2 B2 T2 snt rd u17 wx ∧ Below w.heap.size w wx)
      case first =>
        refine wp_fall (surely_end Z own ask made told rho la ticks k A2 B2 T2 snt rd u17 w W8 _ _ _ _ _ _ _ _ _ _ _ _ _ _ _ _ _ _ _ _ _ _ _ _ _ _ _ _ _ _ _ _ _ _ _ _ _ _ _ _ _ _ _ _ _ _ _ _ _ _ _ _ _ _ _ _ _ _ _ _ _ _ _ _ _ _ _ _ _ _ _ _ _ _ _ _ _ _ _ _ _ _ _ _ _ _ _ _ _ _ _ _ _ _ _ _ _ _ _ _ _ _ _ _ _ _ _ _ _ _ _ _ _ _ _ _ _ _ _ _ _ _ _ _ _ _ _ _ _ _ _ _ _ _ _ _ _ _ _ _ _ _ _ _ _ _ _ _ _ _ _ _ _ _ _ _ _ _ _ _ _ _ _ _ _ _ _ HI8 HB8 HT HLA HZ hkL t0 t1 (fun _ _ _ _ _ _ _ _ _ _ _ _ _ _ _ _ _ _ _ _ _ _ _ _ _ _ _ _ _ _ _ _ wx h1 h2 => ?_))
        refine ‹∀ (a' : Act) (w' : World), Met _ a' w' → _› _ _ ?_
        go_meet
        exact ⟨rfl, h1, h2⟩
      case rest =>
      obtain ⟨rfl, hI9, hB9⟩ := hcut
      have HI9 := Lib.hid hI9
      have HB9 := Lib.hid hB9
      clear hI9 hB9 HI8 HB8 HT HLA HZ HS
      go_wp2_with fail
      go_roundw
      case rel => first | exact ⟨k + 1, A2, B2, T2, snt, rd, _, by omega, by go_num, rfl, rfl, rfl, HI9.out, HB9.out⟩ | ((repeat apply Exists.intro); exact ⟨⟨by omega, by go_num, rfl, rfl, rfl, HI9.out, HB9.out⟩, rfl⟩)
      case measure => first | (simp [intOf]; done) | (simp [intOf]; omega)
    · obtain rfl : k = len := by omega
      have HB := Lib.hid hB
      clear hB hI
      go_wp2_with (first
        | (go_at_call 26; refine (gwakes_any _).mono ?_; rintro e WK ⟨rfl, hWK⟩))
      go_ret
      exact ⟨rfl, HB.out.trans (hWK.mono HB.out.size)⟩
end Go.Proofs.Ytlgjdiadohhleaa
