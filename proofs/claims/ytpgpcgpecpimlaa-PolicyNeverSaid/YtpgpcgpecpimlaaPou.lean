/-
  PolicyNever, walked.
-/
import Derived.Test.YtpgpcgpecpimlaaPot
import Derived.Test.YtpgpcgpecpimlaaPon
import Derived.Test.YtpgpcgpecpimlaaPo2
import Derived.Deep.RegionLaw
import Derived.Lib.AppendZeros
namespace Go.Proofs.Ytpgpcgpecpimlaa
open Go.RowKit
set_option linter.unusedSimpArgs false
set_option linter.unusedVariables false

theorem putA_form2 (L : List TnE) (id rate burst : Int) : ∃ r b, putA L id rate burst = .agg #[.int .i64 (putE L id rate burst), .int .i64 r, .int .i64 b, .int .i64 0, .int .i64 0] := by
  unfold putA
  by_cases h : putE L id rate burst = 0
  · rw [if_pos h, h]; exact ⟨_, _, rfl⟩
  · rw [if_neg h]; exact ⟨_, _, rfl⟩
theorem an_neq (e r b : Int) (w : World) : (binOp .neq 63 (.agg #[.int .i64 e, .int .i64 r, .int .i64 b, .int .i64 0, .int .i64 0]) (.agg #[.int .i64 e, .int .i64 r, .int .i64 b, .int .i64 0, .int .i64 0])).run Try.prog w = .ok (.bool false) w := by
  simp only [binOp]
  simp [an_eq, Result.andThen]
theorem put_len {L : List TnE} {id rate burst out : Int} (h : L.length ≤ 60) : (putL L id rate burst out).length ≤ 200 := by
  unfold putL
  split
  · have := lay_len (putX L id rate burst out) L
    omega
  · omega
theorem put_bkt {L : List TnE} {id rate burst out : Int} (h : chk L = true) : bktL id (putL L id rate burst out) ≤ bktL id L := by
  have hp := bkt_pos h id
  rcases putE_cases (id := id) (rate := rate) (burst := burst) h with ⟨he, h1, h2⟩ | ⟨he, _⟩
  · obtain ⟨_, _, hf⟩ := put_good (out := out) h he h1 h2
    have c := room_bd burst out
    unfold bktL at hp ⊢
    rw [hf]
    show cut ((fnd id L).getD z0).bkt burst out ≤ ((fnd id L).getD z0).bkt
    unfold cut within
    omega
  · unfold putL
    rw [if_neg he]
    exact Int.le_refl _
set_option maxRecDepth 100000 in
set_option maxHeartbeats 32000000 in
theorem policyNever_walk (v : Value) (L : List TnE) (id rate burst out other : Int) (w : World) (h : TV w v L) (hid : -9223372036854775808 ≤ id ∧ id ≤ 9223372036854775807) (ho : out ≤ 9223372036854775807) : Calls Try.prog 13 #[v, .int .i64 id, .int .i64 rate, .int .i64 burst, .int .i64 out, .int .i64 other] w fun e w' => e = .returned (.bool true) ∧ Below w.heap.size w w' := by
  have HB : Hid (Below w.heap.size w w) := Lib.hid (Below.refl _ _)
  have HV := Lib.hid h
  have HGT : Hid (∀ W, Calls Try.prog 40 #[v] W fun e w' => e = .returned (.bool (decide (60 < L.length))) ∧ W = w') := Lib.hid (fun W => by
    obtain ⟨a, b, o, c, rfl, h2⟩ := h
    have q1 := h2.le
    have q2 := h2.max
    unfold maxLen at q2
    exact great_any a L.length c W (by omega))
  have HWK := Lib.hid pwakes_any
  have HCK := Lib.hid (pcheck_any v L w h)
  by_cases h60 : 60 < L.length
  · have d60 : decide (60 < L.length) = true := decide_eq_true h60
    rw [d60] at HGT
    clear d60 h60 h
    go_enter Try.func13, Try.ntmps13
    go_wp2_with fail
    go_at_call 40
    refine Calls.mono (HGT.out _) ?_
    rintro e w' ⟨rfl, rfl⟩
    go_wp2_with fail
    go_at_call 41
    refine Calls.mono (HWK.out _) ?_
    rintro e9 W21 ⟨rfl, hB⟩
    have HV := Lib.hid (HV.out.below hB)
    have HB := Lib.hid (HB.out.trans (hB.mono HB.out.size))
    clear hB
    go_wp2_with fail
    go_ret
    exact ⟨rfl, HB.out⟩
  have d60 : decide (60 < L.length) = false := decide_eq_false h60
  have hl60 : L.length ≤ 60 := by omega
  rw [d60] at HGT
  clear d60 h60
  cases hcL : chk L
  · rw [hcL] at HCK
    clear hcL h
    go_enter Try.func13, Try.ntmps13
    go_wp2_with fail
    go_at_call 40
    refine Calls.mono (HGT.out _) ?_
    rintro e w' ⟨rfl, rfl⟩
    go_wp2_with fail
    go_at_call 45
    refine Calls.mono HCK.out ?_
    rintro e W1 ⟨rfl, hB⟩
    have HB := Lib.hid (HB.out.trans (hB.mono HB.out.size))
    have HV := Lib.hid (HV.out.below hB)
    clear hB
    go_wp2_with fail
    go_at_call 41
    refine Calls.mono (HWK.out _) ?_
    rintro e9 W2 ⟨rfl, hB⟩
    have HV := Lib.hid (HV.out.below hB)
    have HB := Lib.hid (HB.out.trans (hB.mono HB.out.size))
    clear hB
    go_wp2_with fail
    go_ret
    exact ⟨rfl, HB.out⟩
  rw [hcL] at HCK
  obtain ⟨La, hLa⟩ : ∃ La, La = putL L id rate burst out := ⟨_, rfl⟩
  obtain ⟨Lb, hLb⟩ : ∃ Lb, Lb = delL La id out := ⟨_, rfl⟩
  obtain ⟨ar, ab, hpa⟩ := putA_form2 L id rate burst
  obtain ⟨ee, hee⟩ : ∃ ee, ee = putE L id rate burst := ⟨_, rfl⟩
  rw [← hee] at hpa
  have hcA : chk La = true := by
    rw [hLa]
    rcases putE_cases (id := id) (rate := rate) (burst := burst) hcL with ⟨he, h1, h2⟩ | ⟨he, _⟩
    · exact (put_good hcL he h1 h2).2.1
    · unfold putL; rw [if_neg he]; exact hcL
  have hcB : chk Lb = true := by rw [hLb]; exact chk_del hcA
  have hlA : La.length ≤ 200 := by rw [hLa]; exact put_len hl60
  have hbk : bktL id La ≤ bktL id L := by rw [hLa]; exact put_bkt hcL
  have hfo : other ≠ id → fnd other La = fnd other L := fun hne => by
    rw [hLa]
    unfold putL
    split
    · exact fnd_lay_ne (putX L id rate burst out) other hne L
    · rfl
  have HCa := Lib.hid (fun v W (h : TV W v La) => pcheck_any v La W h)
  rw [hcA] at HCa
  have HCb := Lib.hid (fun v W (h : TV W v Lb) => pcheck_any v Lb W h)
  rw [hcB] at HCb
  have HBa := Lib.hid (fun v W (h : TV W v La) => bucket_any v La id W h)
  have HBl := Lib.hid (fun v W (h : TV W v L) => bucket_any v L id W h)
  have HBb := Lib.hid (fun v W (h : TV W v Lb) => bucket_any v Lb id W h)
  have HOa := Lib.hid (fun v W (h : TV W v La) => bucket_any v La other W h)
  have HOl := Lib.hid (fun v W (h : TV W v L) => bucket_any v L other W h)
  have HGa := Lib.hid (fun v W (h : TV W v Lb) => pget_any v Lb other W h)
  have HGl := Lib.hid (fun v W (h : TV W v L) => pget_any v L other W h)
  have HAa := Lib.hid (fun v W (h : TV W v La) => pget_any v La id W h)
  have HAb := Lib.hid (fun v W (h : TV W v Lb) => pget_any v Lb id W h)
  have hov : other ≠ id → bktL other La = bktL other L ∧ getV other Lb = getV other L := fun hne => ⟨by unfold bktL; rw [hfo hne], getV_congr hcB hcL (by rw [hLb, fnd_del_ne hne, hfo hne])⟩
  have hgood : ee = 0 → bktL id Lb = 0 ∧ getV id La = ansV 0 rate burst ∧ getV id Lb = ansV 161 0 0 := fun he => by
    rcases putE_cases (id := id) (rate := rate) (burst := burst) hcL with ⟨he2, h1, h2⟩ | ⟨he2, _⟩
    · obtain ⟨q1, q2, q3⟩ := put_good (out := out) hcL he2 h1 h2
      rw [← hLa] at q3
      have hd := del_good (out := out) hcA q3 rfl
      rw [← hLb] at hd
      refine ⟨hd.1, getV_some hcA q3 rfl, ?_⟩
      unfold getV getX
      rw [hd.2]
      rfl
    · exact absurd (hee.symm.trans he) he2
  have hbad : ee ≠ 0 → La = L := fun he => by rw [hLa]; unfold putL; rw [if_neg (by rw [← hee]; exact he)]
  have P1 := Lib.hid (fun W (h : TV W v L) => pput_any v L id rate burst out W h (by omega) ho)
  rw [← hLa, hpa] at P1
  have P2 := Lib.hid (fun v W (h : TV W v La) => pdelete_any v La id out W h hlA hid)
  obtain ⟨de, hde⟩ : ∃ de, de = getE id La := ⟨_, rfl⟩
  rw [← hLb, show delA La id = .agg #[.int .i64 de, .int .i64 0, .int .i64 0, .int .i64 0, .int .i64 0] by rw [hde]; rfl] at P2
  obtain ⟨bA, hbA⟩ : ∃ bA, bA = bktL id La := ⟨_, rfl⟩
  obtain ⟨b0, hb0⟩ : ∃ b0, b0 = bktL id L := ⟨_, rfl⟩
  obtain ⟨bB, hbB⟩ : ∃ bB, bB = bktL id Lb := ⟨_, rfl⟩
  rw [← hbA] at HBa hbk
  rw [← hb0] at HBl hbk
  rw [← hbB] at HBb hgood
  have HOV := Lib.hid hov
  have HGD := Lib.hid hgood
  have HBD := Lib.hid hbad
  have dle : decide (b0 < bA) = false := decide_eq_false (by omega)
  clear hLa hLb hpa hee hcA hcB hlA hfo hov hgood hbad hde hbA hb0 hbB hbk ho hid h
  obtain ⟨a, b, o, cap, rfl, hin⟩ := HV.out
  have m1 := hin.le
  have m2 := hin.max
  unfold maxLen at m2
  have HIN := Lib.hid hin
  obtain ⟨n, hn⟩ : ∃ n, n = L.length := ⟨_, rfl⟩
  have HN := Lib.hid hn
  rw [← hn] at m1 HIN hl60 HGT HCK P1 HV
  clear hin hcL
  rw [← hn]
  clear hn
  obtain ⟨v, hv9⟩ : ∃ v, v = Value.slice a n cap := ⟨_, rfl⟩
  rw [← hv9] at HGT HCK P1 HV ⊢
  have HV9 := Lib.hid hv9
  clear hv9
  go_enter Try.func13, Try.ntmps13
  go_wp2_with fail
  go_at_call 40
  refine Calls.mono (HGT.out _) ?_
  rintro e w' ⟨rfl, rfl⟩
  go_wp2_with fail
  go_at_call 45
  refine Calls.mono HCK.out ?_
  rintro e W1 ⟨rfl, hB⟩
  have HB := Lib.hid (HB.out.trans (hB.mono HB.out.size))
  have HV := Lib.hid (HV.out.below hB)
  have hi1 := HIN.out.below hB
  have hrow0 : Row (W1.alloc (.cells #[] 72)) (.slice (some ⟨W1.heap.size, 0, none⟩) 0 0) (some W1.heap.size) 72 5 0 (listL []) := Row.mk (heap_alloc_new W1 _) (Nat.le_refl _) (by unfold maxLen; omega) rfl rfl
  have hpc0 : PcT W1 a n cap L := ⟨HN.out.symm, fun hn0 => ⟨b, o, (hi1.at_ hn0).1, (hi1.at_ hn0).2, fun j u hu => tn_at2 hi1 j u (by rw [HN.out, ← tnL_gt]; exact hu)⟩⟩
  have hpc := hpc0.below ((Below.refl W1.heap.size W1).alloc (Nat.le_refl _) (.cells #[] 72))
  obtain ⟨v3, ob3, W3, hrun, hrow3, hg3, hob3⟩ := app_row (ty := 60) (L1 := []) hrow0 rfl hpc (by simp; omega)
  rw [← HV9.out] at hrun
  have hB3 : Below W1.heap.size W1 W3 := ((Below.refl W1.heap.size W1).alloc (Nat.le_refl _) (.cells #[] 72)).grown hg3 (by simp) (fun g e => by obtain rfl := Option.some.inj e; exact Nat.le_refl _)
  have HV3 := Lib.hid (tv_row (by simpa using hrow3 : Row W3 v3 (some ob3) 72 5 L.length (listL L)) HV.out.ok)
  have HV := Lib.hid (HV.out.below hB3)
  have HB := Lib.hid (HB.out.trans (hB3.mono HB.out.size))
  have HRUN := Lib.hid hrun
  clear hB hi1 hrow0 hpc0 hpc hrow3 hg3 hob3 hB3 hrun HIN HV9
  go_wp2_with (at_builtin; refine Lib.wpList_append_run _ rfl (.tmp 26) (.tmp 27) 60 60 rfl _ _ rfl rfl _ _ HRUN.out ?_)
  go_wp2_with fail
  go_at_call 42
  refine Calls.mono (P1.out _ HV.out) ?_
  rintro e9 W4 ⟨v1, rfl, hv1, hB⟩
  have HV := Lib.hid (HV.out.below hB)
  have HV3 := Lib.hid (HV3.out.below hB)
  have HB := Lib.hid (HB.out.trans (hB.mono HB.out.size))
  clear hB
  have HV1 := Lib.hid hv1
  clear hv1
  go_upto_region 5 with fail
  obtain ⟨A1, hA1⟩ : ∃ A1, A1 = W4.heap.size := ⟨_, rfl⟩
  obtain ⟨W5, hW⟩ : ∃ W0, W0 = W4.alloc (.cells #[.int .i64 ee, .int .i64 ar, .int .i64 ab, .int .i64 0, .int .i64 0] 63) := ⟨_, rfl⟩
  have hB : Below W4.heap.size W4 W5 := by rw [hW]; exact (Below.refl _ _).alloc (Nat.le_refl _) _
  have HA1 := Lib.hid (show Blk W5 A1 #[.int .i64 ee, .int .i64 ar, .int .i64 ab, .int .i64 0, .int .i64 0] 63 by rw [hW, hA1]; exact blk_new _ _ _)
  have HV := Lib.hid (HV.out.below hB)
  have HV3 := Lib.hid (HV3.out.below hB)
  have HV1 := Lib.hid (HV1.out.below hB)
  have HB := Lib.hid (HB.out.trans (hB.mono HB.out.size))
  rw [← hA1, ← hW]
  clear hW hA1 hB
  go_wp2_with fail
  go_at_call 47
  refine Calls.mono (P2.out v1 _ HV1.out) ?_
  rintro e9 W6 ⟨v2, rfl, hv2, hB⟩
  have HV := Lib.hid (HV.out.below hB)
  have HV3 := Lib.hid (HV3.out.below hB)
  have HV1 := Lib.hid (HV1.out.below hB)
  have HA1 := Lib.hid (HA1.out.step hB)
  have HB := Lib.hid (HB.out.trans (hB.mono HB.out.size))
  clear hB
  have HV2 := Lib.hid hv2
  clear hv2
  go_upto_region 6 with fail
  obtain ⟨A2, hA2⟩ : ∃ A2, A2 = W6.heap.size := ⟨_, rfl⟩
  obtain ⟨W8, hW⟩ : ∃ W0, W0 = W6.alloc (.cells #[.int .i64 de, .int .i64 0, .int .i64 0, .int .i64 0, .int .i64 0] 63) := ⟨_, rfl⟩
  have hB : Below W6.heap.size W6 W8 := by rw [hW]; exact (Below.refl _ _).alloc (Nat.le_refl _) _
  have HA2 := Lib.hid (show Blk W8 A2 #[.int .i64 de, .int .i64 0, .int .i64 0, .int .i64 0, .int .i64 0] 63 by rw [hW, hA2]; exact blk_new _ _ _)
  have HV := Lib.hid (HV.out.below hB)
  have HV3 := Lib.hid (HV3.out.below hB)
  have HV1 := Lib.hid (HV1.out.below hB)
  have HA1 := Lib.hid (HA1.out.step hB)
  have HV2 := Lib.hid (HV2.out.below hB)
  have HB := Lib.hid (HB.out.trans (hB.mono HB.out.size))
  rw [← hA2, ← hW]
  clear hW hA2 hB
  by_cases he : ee = 0
  · obtain ⟨q1, q2, q3⟩ := HGD.out he
    subst q1
    rw [q2] at HAa
    rw [q3] at HAb
    subst he
    unfold ansV at HAa HAb
    have heq := an_eql 0 rate burst
    have hfld : ∀ W, (Instr.field 63 (.agg #[.int .i64 161, .int .i64 0, .int .i64 0, .int .i64 0, .int .i64 0]) 0).run Try.prog W = .ok (.int .i64 161) W := fun W => by kernel_rfl
    clear q2 q3 HGD HBD
    by_cases hot : other = id
    · have n1 : (other != id) = false := by simp [hot]
      clear hot
      go_wp2_with fail
      go_at_call 45
      refine Calls.mono (HCa.out v1 _ HV1.out) ?_
      rintro e9 W9 ⟨rfl, hB⟩
      have HV := Lib.hid (HV.out.below hB)
      have HV3 := Lib.hid (HV3.out.below hB)
      have HV1 := Lib.hid (HV1.out.below hB)
      have HA1 := Lib.hid (HA1.out.step hB)
      have HV2 := Lib.hid (HV2.out.below hB)
      have HA2 := Lib.hid (HA2.out.step hB)
      have HB := Lib.hid (HB.out.trans (hB.mono HB.out.size))
      clear hB
      go_wp2_with fail
      go_at_call 45
      refine Calls.mono (HCb.out v2 _ HV2.out) ?_
      rintro e9 W10 ⟨rfl, hB⟩
      have HV := Lib.hid (HV.out.below hB)
      have HV3 := Lib.hid (HV3.out.below hB)
      have HV1 := Lib.hid (HV1.out.below hB)
      have HA1 := Lib.hid (HA1.out.step hB)
      have HV2 := Lib.hid (HV2.out.below hB)
      have HA2 := Lib.hid (HA2.out.step hB)
      have HB := Lib.hid (HB.out.trans (hB.mono HB.out.size))
      clear hB
      go_wp2_with fail
      go_at_call 57
      refine Calls.mono (HBa.out v1 _ HV1.out) ?_
      rintro e9 W11 ⟨rfl, hB⟩
      have HV := Lib.hid (HV.out.below hB)
      have HV3 := Lib.hid (HV3.out.below hB)
      have HV1 := Lib.hid (HV1.out.below hB)
      have HA1 := Lib.hid (HA1.out.step hB)
      have HV2 := Lib.hid (HV2.out.below hB)
      have HA2 := Lib.hid (HA2.out.step hB)
      have HB := Lib.hid (HB.out.trans (hB.mono HB.out.size))
      clear hB
      go_wp2_with fail
      go_at_call 57
      refine Calls.mono (HBl.out v _ HV.out) ?_
      rintro e9 W12 ⟨rfl, hB⟩
      have HV := Lib.hid (HV.out.below hB)
      have HV3 := Lib.hid (HV3.out.below hB)
      have HV1 := Lib.hid (HV1.out.below hB)
      have HA1 := Lib.hid (HA1.out.step hB)
      have HV2 := Lib.hid (HV2.out.below hB)
      have HA2 := Lib.hid (HA2.out.step hB)
      have HB := Lib.hid (HB.out.trans (hB.mono HB.out.size))
      clear hB
      go_wp2_with fail
      go_at_call 57
      refine Calls.mono (HBb.out v2 _ HV2.out) ?_
      rintro e9 W13 ⟨rfl, hB⟩
      have HV := Lib.hid (HV.out.below hB)
      have HV3 := Lib.hid (HV3.out.below hB)
      have HV1 := Lib.hid (HV1.out.below hB)
      have HA1 := Lib.hid (HA1.out.step hB)
      have HV2 := Lib.hid (HV2.out.below hB)
      have HA2 := Lib.hid (HA2.out.step hB)
      have HB := Lib.hid (HB.out.trans (hB.mono HB.out.size))
      clear hB
      have g0 : W13.cell? ⟨A1, 0, none⟩ = some (.int .i64 0) := cell_at HA1.out 0
      have g9 : A1 < W13.heap.size := HA1.out.lt
      go_wp2_with fail
      go_at_call 44
      refine Calls.mono (same_tv v3 v L _ HV3.out HV.out) ?_
      rintro e9 W14 ⟨rfl, hB⟩
      have HV := Lib.hid (HV.out.below hB)
      have HV3 := Lib.hid (HV3.out.below hB)
      have HV1 := Lib.hid (HV1.out.below hB)
      have HA1 := Lib.hid (HA1.out.step hB)
      have HV2 := Lib.hid (HV2.out.below hB)
      have HA2 := Lib.hid (HA2.out.step hB)
      have HB := Lib.hid (HB.out.trans (hB.mono HB.out.size))
      clear hB
      clear g0 g9
      have g0 : W14.cell? ⟨A1, 0, none⟩ = some (.int .i64 0) := cell_at HA1.out 0
      have g9 : A1 < W14.heap.size := HA1.out.lt
      go_wp2_with fail
      go_at_call 49
      refine Calls.mono (HAa.out v1 _ HV1.out) ?_
      rintro e9 W15 ⟨rfl, hB⟩
      have HV := Lib.hid (HV.out.below hB)
      have HV3 := Lib.hid (HV3.out.below hB)
      have HV1 := Lib.hid (HV1.out.below hB)
      have HA1 := Lib.hid (HA1.out.step hB)
      have HV2 := Lib.hid (HV2.out.below hB)
      have HA2 := Lib.hid (HA2.out.step hB)
      have HB := Lib.hid (HB.out.trans (hB.mono HB.out.size))
      clear hB
      clear g0 g9
      go_wp2_with fail
      go_at_call 49
      refine Calls.mono (HAb.out v2 _ HV2.out) ?_
      rintro e9 W16 ⟨rfl, hB⟩
      have HV := Lib.hid (HV.out.below hB)
      have HV3 := Lib.hid (HV3.out.below hB)
      have HV1 := Lib.hid (HV1.out.below hB)
      have HA1 := Lib.hid (HA1.out.step hB)
      have HV2 := Lib.hid (HV2.out.below hB)
      have HA2 := Lib.hid (HA2.out.step hB)
      have HB := Lib.hid (HB.out.trans (hB.mono HB.out.size))
      clear hB
      go_wp2_with fail
      go_at_call 41
      refine Calls.mono (HWK.out _) ?_
      rintro e9 W17 ⟨rfl, hB⟩
      have HV := Lib.hid (HV.out.below hB)
      have HV3 := Lib.hid (HV3.out.below hB)
      have HV1 := Lib.hid (HV1.out.below hB)
      have HA1 := Lib.hid (HA1.out.step hB)
      have HV2 := Lib.hid (HV2.out.below hB)
      have HA2 := Lib.hid (HA2.out.step hB)
      have HB := Lib.hid (HB.out.trans (hB.mono HB.out.size))
      clear hB
      go_wp2_with fail
      go_ret
      exact ⟨rfl, HB.out⟩
    · have n1 : (other != id) = true := by simp [hot]
      obtain ⟨q4, q5⟩ := HOV.out hot
      rw [q4] at HOa
      rw [q5] at HGa
      obtain ⟨bo, hbo⟩ : ∃ bo, bo = bktL other L := ⟨_, rfl⟩
      rw [← hbo] at HOa HOl
      obtain ⟨g1, hg1⟩ : ∃ g1, g1 = getE other L := ⟨_, rfl⟩
      obtain ⟨g2, hg2⟩ : ∃ g2, g2 = (getX other L).rate := ⟨_, rfl⟩
      obtain ⟨g3, hg3⟩ : ∃ g3, g3 = (getX other L).burst := ⟨_, rfl⟩
      unfold getV at HGa HGl
      rw [← hg1, ← hg2, ← hg3] at HGa HGl
      unfold ansV at HGa HGl
      have hne := an_neq g1 g2 g3
      clear hot q4 q5 hbo hg1 hg2 hg3
      go_wp2_with fail
      go_at_call 45
      refine Calls.mono (HCa.out v1 _ HV1.out) ?_
      rintro e9 W9 ⟨rfl, hB⟩
      have HV := Lib.hid (HV.out.below hB)
      have HV3 := Lib.hid (HV3.out.below hB)
      have HV1 := Lib.hid (HV1.out.below hB)
      have HA1 := Lib.hid (HA1.out.step hB)
      have HV2 := Lib.hid (HV2.out.below hB)
      have HA2 := Lib.hid (HA2.out.step hB)
      have HB := Lib.hid (HB.out.trans (hB.mono HB.out.size))
      clear hB
      go_wp2_with fail
      go_at_call 45
      refine Calls.mono (HCb.out v2 _ HV2.out) ?_
      rintro e9 W10 ⟨rfl, hB⟩
      have HV := Lib.hid (HV.out.below hB)
      have HV3 := Lib.hid (HV3.out.below hB)
      have HV1 := Lib.hid (HV1.out.below hB)
      have HA1 := Lib.hid (HA1.out.step hB)
      have HV2 := Lib.hid (HV2.out.below hB)
      have HA2 := Lib.hid (HA2.out.step hB)
      have HB := Lib.hid (HB.out.trans (hB.mono HB.out.size))
      clear hB
      go_wp2_with fail
      go_at_call 57
      refine Calls.mono (HBa.out v1 _ HV1.out) ?_
      rintro e9 W11 ⟨rfl, hB⟩
      have HV := Lib.hid (HV.out.below hB)
      have HV3 := Lib.hid (HV3.out.below hB)
      have HV1 := Lib.hid (HV1.out.below hB)
      have HA1 := Lib.hid (HA1.out.step hB)
      have HV2 := Lib.hid (HV2.out.below hB)
      have HA2 := Lib.hid (HA2.out.step hB)
      have HB := Lib.hid (HB.out.trans (hB.mono HB.out.size))
      clear hB
      go_wp2_with fail
      go_at_call 57
      refine Calls.mono (HBl.out v _ HV.out) ?_
      rintro e9 W12 ⟨rfl, hB⟩
      have HV := Lib.hid (HV.out.below hB)
      have HV3 := Lib.hid (HV3.out.below hB)
      have HV1 := Lib.hid (HV1.out.below hB)
      have HA1 := Lib.hid (HA1.out.step hB)
      have HV2 := Lib.hid (HV2.out.below hB)
      have HA2 := Lib.hid (HA2.out.step hB)
      have HB := Lib.hid (HB.out.trans (hB.mono HB.out.size))
      clear hB
      go_wp2_with fail
      go_at_call 57
      refine Calls.mono (HBb.out v2 _ HV2.out) ?_
      rintro e9 W13 ⟨rfl, hB⟩
      have HV := Lib.hid (HV.out.below hB)
      have HV3 := Lib.hid (HV3.out.below hB)
      have HV1 := Lib.hid (HV1.out.below hB)
      have HA1 := Lib.hid (HA1.out.step hB)
      have HV2 := Lib.hid (HV2.out.below hB)
      have HA2 := Lib.hid (HA2.out.step hB)
      have HB := Lib.hid (HB.out.trans (hB.mono HB.out.size))
      clear hB
      have g0 : W13.cell? ⟨A1, 0, none⟩ = some (.int .i64 0) := cell_at HA1.out 0
      have g9 : A1 < W13.heap.size := HA1.out.lt
      go_wp2_with fail
      go_at_call 44
      refine Calls.mono (same_tv v3 v L _ HV3.out HV.out) ?_
      rintro e9 W14 ⟨rfl, hB⟩
      have HV := Lib.hid (HV.out.below hB)
      have HV3 := Lib.hid (HV3.out.below hB)
      have HV1 := Lib.hid (HV1.out.below hB)
      have HA1 := Lib.hid (HA1.out.step hB)
      have HV2 := Lib.hid (HV2.out.below hB)
      have HA2 := Lib.hid (HA2.out.step hB)
      have HB := Lib.hid (HB.out.trans (hB.mono HB.out.size))
      clear hB
      clear g0 g9
      go_wp2_with fail
      go_at_call 57
      refine Calls.mono (HOa.out v1 _ HV1.out) ?_
      rintro e9 W15 ⟨rfl, hB⟩
      have HV := Lib.hid (HV.out.below hB)
      have HV3 := Lib.hid (HV3.out.below hB)
      have HV1 := Lib.hid (HV1.out.below hB)
      have HA1 := Lib.hid (HA1.out.step hB)
      have HV2 := Lib.hid (HV2.out.below hB)
      have HA2 := Lib.hid (HA2.out.step hB)
      have HB := Lib.hid (HB.out.trans (hB.mono HB.out.size))
      clear hB
      go_wp2_with fail
      go_at_call 57
      refine Calls.mono (HOl.out v _ HV.out) ?_
      rintro e9 W16 ⟨rfl, hB⟩
      have HV := Lib.hid (HV.out.below hB)
      have HV3 := Lib.hid (HV3.out.below hB)
      have HV1 := Lib.hid (HV1.out.below hB)
      have HA1 := Lib.hid (HA1.out.step hB)
      have HV2 := Lib.hid (HV2.out.below hB)
      have HA2 := Lib.hid (HA2.out.step hB)
      have HB := Lib.hid (HB.out.trans (hB.mono HB.out.size))
      clear hB
      go_wp2_with fail
      go_at_call 49
      refine Calls.mono (HGa.out v2 _ HV2.out) ?_
      rintro e9 W17 ⟨rfl, hB⟩
      have HV := Lib.hid (HV.out.below hB)
      have HV3 := Lib.hid (HV3.out.below hB)
      have HV1 := Lib.hid (HV1.out.below hB)
      have HA1 := Lib.hid (HA1.out.step hB)
      have HV2 := Lib.hid (HV2.out.below hB)
      have HA2 := Lib.hid (HA2.out.step hB)
      have HB := Lib.hid (HB.out.trans (hB.mono HB.out.size))
      clear hB
      go_wp2_with fail
      go_at_call 49
      refine Calls.mono (HGl.out v _ HV.out) ?_
      rintro e9 W18 ⟨rfl, hB⟩
      have HV := Lib.hid (HV.out.below hB)
      have HV3 := Lib.hid (HV3.out.below hB)
      have HV1 := Lib.hid (HV1.out.below hB)
      have HA1 := Lib.hid (HA1.out.step hB)
      have HV2 := Lib.hid (HV2.out.below hB)
      have HA2 := Lib.hid (HA2.out.step hB)
      have HB := Lib.hid (HB.out.trans (hB.mono HB.out.size))
      clear hB
      have g0 : W18.cell? ⟨A1, 0, none⟩ = some (.int .i64 0) := cell_at HA1.out 0
      have g9 : A1 < W18.heap.size := HA1.out.lt
      go_wp2_with fail
      go_at_call 49
      refine Calls.mono (HAa.out v1 _ HV1.out) ?_
      rintro e9 W19 ⟨rfl, hB⟩
      have HV := Lib.hid (HV.out.below hB)
      have HV3 := Lib.hid (HV3.out.below hB)
      have HV1 := Lib.hid (HV1.out.below hB)
      have HA1 := Lib.hid (HA1.out.step hB)
      have HV2 := Lib.hid (HV2.out.below hB)
      have HA2 := Lib.hid (HA2.out.step hB)
      have HB := Lib.hid (HB.out.trans (hB.mono HB.out.size))
      clear hB
      clear g0 g9
      go_wp2_with fail
      go_at_call 49
      refine Calls.mono (HAb.out v2 _ HV2.out) ?_
      rintro e9 W20 ⟨rfl, hB⟩
      have HV := Lib.hid (HV.out.below hB)
      have HV3 := Lib.hid (HV3.out.below hB)
      have HV1 := Lib.hid (HV1.out.below hB)
      have HA1 := Lib.hid (HA1.out.step hB)
      have HV2 := Lib.hid (HV2.out.below hB)
      have HA2 := Lib.hid (HA2.out.step hB)
      have HB := Lib.hid (HB.out.trans (hB.mono HB.out.size))
      clear hB
      go_wp2_with fail
      go_at_call 41
      refine Calls.mono (HWK.out _) ?_
      rintro e9 W21 ⟨rfl, hB⟩
      have HV := Lib.hid (HV.out.below hB)
      have HV3 := Lib.hid (HV3.out.below hB)
      have HV1 := Lib.hid (HV1.out.below hB)
      have HA1 := Lib.hid (HA1.out.step hB)
      have HV2 := Lib.hid (HV2.out.below hB)
      have HA2 := Lib.hid (HA2.out.step hB)
      have HB := Lib.hid (HB.out.trans (hB.mono HB.out.size))
      clear hB
      go_wp2_with fail
      go_ret
      exact ⟨rfl, HB.out⟩
  · have HLL := Lib.hid (HBD.out he)
    have n2 : (ee != 0) = true := bne_iff_ne.2 he
    have n3 : (ee == 0) = false := beq_eq_false_iff_ne.2 he
    have n4 : (ee = 0) = False := eq_false he
    clear he HGD HBD
    have hbb : (bB != 0) = true ∨ (bB != 0) = false := by cases (bB != 0) <;> simp
    rcases hbb with n5 | n5
    all_goals
      by_cases hot : other = id
      · have n1 : (other != id) = false := by simp [hot]
        clear hot
        go_wp2_with fail
        go_at_call 45
        refine Calls.mono (HCa.out v1 _ HV1.out) ?_
        rintro e9 W9 ⟨rfl, hB⟩
        have HV := Lib.hid (HV.out.below hB)
        have HV3 := Lib.hid (HV3.out.below hB)
        have HV1 := Lib.hid (HV1.out.below hB)
        have HA1 := Lib.hid (HA1.out.step hB)
        have HV2 := Lib.hid (HV2.out.below hB)
        have HA2 := Lib.hid (HA2.out.step hB)
        have HB := Lib.hid (HB.out.trans (hB.mono HB.out.size))
        clear hB
        go_wp2_with fail
        go_at_call 45
        refine Calls.mono (HCb.out v2 _ HV2.out) ?_
        rintro e9 W10 ⟨rfl, hB⟩
        have HV := Lib.hid (HV.out.below hB)
        have HV3 := Lib.hid (HV3.out.below hB)
        have HV1 := Lib.hid (HV1.out.below hB)
        have HA1 := Lib.hid (HA1.out.step hB)
        have HV2 := Lib.hid (HV2.out.below hB)
        have HA2 := Lib.hid (HA2.out.step hB)
        have HB := Lib.hid (HB.out.trans (hB.mono HB.out.size))
        clear hB
        go_wp2_with fail
        go_at_call 57
        refine Calls.mono (HBa.out v1 _ HV1.out) ?_
        rintro e9 W11 ⟨rfl, hB⟩
        have HV := Lib.hid (HV.out.below hB)
        have HV3 := Lib.hid (HV3.out.below hB)
        have HV1 := Lib.hid (HV1.out.below hB)
        have HA1 := Lib.hid (HA1.out.step hB)
        have HV2 := Lib.hid (HV2.out.below hB)
        have HA2 := Lib.hid (HA2.out.step hB)
        have HB := Lib.hid (HB.out.trans (hB.mono HB.out.size))
        clear hB
        go_wp2_with fail
        go_at_call 57
        refine Calls.mono (HBl.out v _ HV.out) ?_
        rintro e9 W12 ⟨rfl, hB⟩
        have HV := Lib.hid (HV.out.below hB)
        have HV3 := Lib.hid (HV3.out.below hB)
        have HV1 := Lib.hid (HV1.out.below hB)
        have HA1 := Lib.hid (HA1.out.step hB)
        have HV2 := Lib.hid (HV2.out.below hB)
        have HA2 := Lib.hid (HA2.out.step hB)
        have HB := Lib.hid (HB.out.trans (hB.mono HB.out.size))
        clear hB
        go_wp2_with fail
        go_at_call 57
        refine Calls.mono (HBb.out v2 _ HV2.out) ?_
        rintro e9 W13 ⟨rfl, hB⟩
        have HV := Lib.hid (HV.out.below hB)
        have HV3 := Lib.hid (HV3.out.below hB)
        have HV1 := Lib.hid (HV1.out.below hB)
        have HA1 := Lib.hid (HA1.out.step hB)
        have HV2 := Lib.hid (HV2.out.below hB)
        have HA2 := Lib.hid (HA2.out.step hB)
        have HB := Lib.hid (HB.out.trans (hB.mono HB.out.size))
        clear hB
        have g0 : W13.cell? ⟨A1, 0, none⟩ = some (.int .i64 ee) := cell_at HA1.out 0
        have g9 : A1 < W13.heap.size := HA1.out.lt
        go_wp2_with fail
        go_at_call 44
        refine Calls.mono (same_tv v3 v L _ HV3.out HV.out) ?_
        rintro e9 W14 ⟨rfl, hB⟩
        have HV := Lib.hid (HV.out.below hB)
        have HV3 := Lib.hid (HV3.out.below hB)
        have HV1 := Lib.hid (HV1.out.below hB)
        have HA1 := Lib.hid (HA1.out.step hB)
        have HV2 := Lib.hid (HV2.out.below hB)
        have HA2 := Lib.hid (HA2.out.step hB)
        have HB := Lib.hid (HB.out.trans (hB.mono HB.out.size))
        clear hB
        clear g0 g9
        have g0 : W14.cell? ⟨A1, 0, none⟩ = some (.int .i64 ee) := cell_at HA1.out 0
        have g9 : A1 < W14.heap.size := HA1.out.lt
        go_wp2_with fail
        go_at_call 44
        refine Calls.mono (same_tv v1 v L _ (HLL.out ▸ HV1.out) HV.out) ?_
        rintro e9 W15 ⟨rfl, hB⟩
        have HV := Lib.hid (HV.out.below hB)
        have HV3 := Lib.hid (HV3.out.below hB)
        have HV1 := Lib.hid (HV1.out.below hB)
        have HA1 := Lib.hid (HA1.out.step hB)
        have HV2 := Lib.hid (HV2.out.below hB)
        have HA2 := Lib.hid (HA2.out.step hB)
        have HB := Lib.hid (HB.out.trans (hB.mono HB.out.size))
        clear hB
        clear g0 g9
        go_wp2_with fail
        go_at_call 41
        refine Calls.mono (HWK.out _) ?_
        rintro e9 W16 ⟨rfl, hB⟩
        have HV := Lib.hid (HV.out.below hB)
        have HV3 := Lib.hid (HV3.out.below hB)
        have HV1 := Lib.hid (HV1.out.below hB)
        have HA1 := Lib.hid (HA1.out.step hB)
        have HV2 := Lib.hid (HV2.out.below hB)
        have HA2 := Lib.hid (HA2.out.step hB)
        have HB := Lib.hid (HB.out.trans (hB.mono HB.out.size))
        clear hB
        go_wp2_with fail
        go_ret
        exact ⟨rfl, HB.out⟩
      · have n1 : (other != id) = true := by simp [hot]
        obtain ⟨q4, q5⟩ := HOV.out hot
        rw [q4] at HOa
        rw [q5] at HGa
        obtain ⟨bo, hbo⟩ : ∃ bo, bo = bktL other L := ⟨_, rfl⟩
        rw [← hbo] at HOa HOl
        obtain ⟨g1, hg1⟩ : ∃ g1, g1 = getE other L := ⟨_, rfl⟩
        obtain ⟨g2, hg2⟩ : ∃ g2, g2 = (getX other L).rate := ⟨_, rfl⟩
        obtain ⟨g3, hg3⟩ : ∃ g3, g3 = (getX other L).burst := ⟨_, rfl⟩
        unfold getV at HGa HGl
        rw [← hg1, ← hg2, ← hg3] at HGa HGl
        unfold ansV at HGa HGl
        have hne := an_neq g1 g2 g3
        clear hot q4 q5 hbo hg1 hg2 hg3
        go_wp2_with fail
        go_at_call 45
        refine Calls.mono (HCa.out v1 _ HV1.out) ?_
        rintro e9 W9 ⟨rfl, hB⟩
        have HV := Lib.hid (HV.out.below hB)
        have HV3 := Lib.hid (HV3.out.below hB)
        have HV1 := Lib.hid (HV1.out.below hB)
        have HA1 := Lib.hid (HA1.out.step hB)
        have HV2 := Lib.hid (HV2.out.below hB)
        have HA2 := Lib.hid (HA2.out.step hB)
        have HB := Lib.hid (HB.out.trans (hB.mono HB.out.size))
        clear hB
        go_wp2_with fail
        go_at_call 45
        refine Calls.mono (HCb.out v2 _ HV2.out) ?_
        rintro e9 W10 ⟨rfl, hB⟩
        have HV := Lib.hid (HV.out.below hB)
        have HV3 := Lib.hid (HV3.out.below hB)
        have HV1 := Lib.hid (HV1.out.below hB)
        have HA1 := Lib.hid (HA1.out.step hB)
        have HV2 := Lib.hid (HV2.out.below hB)
        have HA2 := Lib.hid (HA2.out.step hB)
        have HB := Lib.hid (HB.out.trans (hB.mono HB.out.size))
        clear hB
        go_wp2_with fail
        go_at_call 57
        refine Calls.mono (HBa.out v1 _ HV1.out) ?_
        rintro e9 W11 ⟨rfl, hB⟩
        have HV := Lib.hid (HV.out.below hB)
        have HV3 := Lib.hid (HV3.out.below hB)
        have HV1 := Lib.hid (HV1.out.below hB)
        have HA1 := Lib.hid (HA1.out.step hB)
        have HV2 := Lib.hid (HV2.out.below hB)
        have HA2 := Lib.hid (HA2.out.step hB)
        have HB := Lib.hid (HB.out.trans (hB.mono HB.out.size))
        clear hB
        go_wp2_with fail
        go_at_call 57
        refine Calls.mono (HBl.out v _ HV.out) ?_
        rintro e9 W12 ⟨rfl, hB⟩
        have HV := Lib.hid (HV.out.below hB)
        have HV3 := Lib.hid (HV3.out.below hB)
        have HV1 := Lib.hid (HV1.out.below hB)
        have HA1 := Lib.hid (HA1.out.step hB)
        have HV2 := Lib.hid (HV2.out.below hB)
        have HA2 := Lib.hid (HA2.out.step hB)
        have HB := Lib.hid (HB.out.trans (hB.mono HB.out.size))
        clear hB
        go_wp2_with fail
        go_at_call 57
        refine Calls.mono (HBb.out v2 _ HV2.out) ?_
        rintro e9 W13 ⟨rfl, hB⟩
        have HV := Lib.hid (HV.out.below hB)
        have HV3 := Lib.hid (HV3.out.below hB)
        have HV1 := Lib.hid (HV1.out.below hB)
        have HA1 := Lib.hid (HA1.out.step hB)
        have HV2 := Lib.hid (HV2.out.below hB)
        have HA2 := Lib.hid (HA2.out.step hB)
        have HB := Lib.hid (HB.out.trans (hB.mono HB.out.size))
        clear hB
        have g0 : W13.cell? ⟨A1, 0, none⟩ = some (.int .i64 ee) := cell_at HA1.out 0
        have g9 : A1 < W13.heap.size := HA1.out.lt
        go_wp2_with fail
        go_at_call 44
        refine Calls.mono (same_tv v3 v L _ HV3.out HV.out) ?_
        rintro e9 W14 ⟨rfl, hB⟩
        have HV := Lib.hid (HV.out.below hB)
        have HV3 := Lib.hid (HV3.out.below hB)
        have HV1 := Lib.hid (HV1.out.below hB)
        have HA1 := Lib.hid (HA1.out.step hB)
        have HV2 := Lib.hid (HV2.out.below hB)
        have HA2 := Lib.hid (HA2.out.step hB)
        have HB := Lib.hid (HB.out.trans (hB.mono HB.out.size))
        clear hB
        clear g0 g9
        go_wp2_with fail
        go_at_call 57
        refine Calls.mono (HOa.out v1 _ HV1.out) ?_
        rintro e9 W15 ⟨rfl, hB⟩
        have HV := Lib.hid (HV.out.below hB)
        have HV3 := Lib.hid (HV3.out.below hB)
        have HV1 := Lib.hid (HV1.out.below hB)
        have HA1 := Lib.hid (HA1.out.step hB)
        have HV2 := Lib.hid (HV2.out.below hB)
        have HA2 := Lib.hid (HA2.out.step hB)
        have HB := Lib.hid (HB.out.trans (hB.mono HB.out.size))
        clear hB
        go_wp2_with fail
        go_at_call 57
        refine Calls.mono (HOl.out v _ HV.out) ?_
        rintro e9 W16 ⟨rfl, hB⟩
        have HV := Lib.hid (HV.out.below hB)
        have HV3 := Lib.hid (HV3.out.below hB)
        have HV1 := Lib.hid (HV1.out.below hB)
        have HA1 := Lib.hid (HA1.out.step hB)
        have HV2 := Lib.hid (HV2.out.below hB)
        have HA2 := Lib.hid (HA2.out.step hB)
        have HB := Lib.hid (HB.out.trans (hB.mono HB.out.size))
        clear hB
        go_wp2_with fail
        go_at_call 49
        refine Calls.mono (HGa.out v2 _ HV2.out) ?_
        rintro e9 W17 ⟨rfl, hB⟩
        have HV := Lib.hid (HV.out.below hB)
        have HV3 := Lib.hid (HV3.out.below hB)
        have HV1 := Lib.hid (HV1.out.below hB)
        have HA1 := Lib.hid (HA1.out.step hB)
        have HV2 := Lib.hid (HV2.out.below hB)
        have HA2 := Lib.hid (HA2.out.step hB)
        have HB := Lib.hid (HB.out.trans (hB.mono HB.out.size))
        clear hB
        go_wp2_with fail
        go_at_call 49
        refine Calls.mono (HGl.out v _ HV.out) ?_
        rintro e9 W18 ⟨rfl, hB⟩
        have HV := Lib.hid (HV.out.below hB)
        have HV3 := Lib.hid (HV3.out.below hB)
        have HV1 := Lib.hid (HV1.out.below hB)
        have HA1 := Lib.hid (HA1.out.step hB)
        have HV2 := Lib.hid (HV2.out.below hB)
        have HA2 := Lib.hid (HA2.out.step hB)
        have HB := Lib.hid (HB.out.trans (hB.mono HB.out.size))
        clear hB
        have g0 : W18.cell? ⟨A1, 0, none⟩ = some (.int .i64 ee) := cell_at HA1.out 0
        have g9 : A1 < W18.heap.size := HA1.out.lt
        go_wp2_with fail
        go_at_call 44
        refine Calls.mono (same_tv v1 v L _ (HLL.out ▸ HV1.out) HV.out) ?_
        rintro e9 W19 ⟨rfl, hB⟩
        have HV := Lib.hid (HV.out.below hB)
        have HV3 := Lib.hid (HV3.out.below hB)
        have HV1 := Lib.hid (HV1.out.below hB)
        have HA1 := Lib.hid (HA1.out.step hB)
        have HV2 := Lib.hid (HV2.out.below hB)
        have HA2 := Lib.hid (HA2.out.step hB)
        have HB := Lib.hid (HB.out.trans (hB.mono HB.out.size))
        clear hB
        clear g0 g9
        go_wp2_with fail
        go_at_call 41
        refine Calls.mono (HWK.out _) ?_
        rintro e9 W20 ⟨rfl, hB⟩
        have HV := Lib.hid (HV.out.below hB)
        have HV3 := Lib.hid (HV3.out.below hB)
        have HV1 := Lib.hid (HV1.out.below hB)
        have HA1 := Lib.hid (HA1.out.step hB)
        have HV2 := Lib.hid (HV2.out.below hB)
        have HA2 := Lib.hid (HA2.out.step hB)
        have HB := Lib.hid (HB.out.trans (hB.mono HB.out.size))
        clear hB
        go_wp2_with fail
        go_ret
        exact ⟨rfl, HB.out⟩
end Go.Proofs.Ytpgpcgpecpimlaa
