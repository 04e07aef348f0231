/-
  PacketBack, walked.
-/
import Derived.Test.YtpgpcgpecpimlaaPkg
namespace Go.Proofs.Ytpgpcgpecpimlaa
open Go.RowKit
set_option linter.unusedSimpArgs false
set_option linter.unusedVariables false

theorem size_any (num t c : Int) (la : Option Addr) (ln lc : Nat) (w : World) (hn : ln ≤ 4611686018427387904) :
    Calls Try.prog 39 #[.agg #[.int .i64 num, .int .i64 t, .int .i64 c, .slice la ln lc]] w fun e w' => e = .returned (.int .i64 (8 + (ln : Int))) ∧ Below w.heap.size w w' := by
  go_enter Try.func39, Try.ntmps39
  go_wp2_with fail
  go_ret
  exact ⟨rfl, (Below.refl _ _).alloc (Nat.le_refl _) _⟩
theorem bytesOf_congr {X Y : Nat → Nat} {n : Nat} (h : ∀ j, j < n → X j = Y j) : bytesOf X n = bytesOf Y n := by
  unfold bytesOf
  refine List.map_congr_left fun j hj => ?_
  rw [h j (by simpa using hj)]

set_option maxRecDepth 100000 in
set_option maxHeartbeats 8000000 in
theorem same_yes (num t c : Int) (a : Option Addr) (n ca b o : Nat) (X : Nat → Nat) (a' : Option Addr) (ca' b' o' : Nat) (Y : Nat → Nat) (w : World) (h1 : ByIn w a n ca b o X) (h2 : ByIn w a' n ca' b' o' Y) (h : ∀ j, j < n → X j = Y j) :
    Calls Try.prog 38 #[.agg #[.int .i64 num, .int .i64 t, .int .i64 c, .slice a n ca], .agg #[.int .i64 num, .int .i64 t, .int .i64 c, .slice a' n ca']] w fun e w' => e = .returned (.bool true) ∧ Below w.heap.size w w' := by
  obtain ⟨WY, hWY⟩ : ∃ WY, WY = (w.alloc (.cells #[.int .i64 num, .int .i64 t, .int .i64 c, .slice a n ca] 46)).alloc (.cells #[.int .i64 num, .int .i64 t, .int .i64 c, .slice a' n ca'] 46) := ⟨_, rfl⟩
  have hB : Below w.heap.size w WY := by rw [hWY]; exact ((Below.refl _ _).alloc (Nat.le_refl _) _).alloc (by simp) _
  have g1 := (h1.below hB).string
  have g2 := (h2.below hB).string
  rw [bytesOf_congr h] at g1
  obtain ⟨S, hS⟩ : ∃ S : ByteArray, S = ⟨(bytesOf Y n).toArray⟩ := ⟨_, rfl⟩
  rw [← hS] at g1 g2
  rw [hWY] at g1 g2 hB
  have HB := Lib.hid hB
  clear hS hB hWY
  go_enter Try.func38, Try.ntmps38
  go_wp2_with fail
  go_ret
  exact ⟨rfl, HB.out⟩

set_option maxRecDepth 100000 in
set_option maxHeartbeats 8000000 in
theorem packetBack_any (num t c : Int) (la : Option Addr) (ln lc b o : Nat) (X : Nat → Nat) (at_ : Int) (v : Nat) (w : World) (hs : ByIn w la ln lc b o X) (hat : -9223372036854775808 ≤ at_ ∧ at_ ≤ 9223372036854775807) (hv : v < 256) :
    Calls Try.prog 8 #[.agg #[.int .i64 num, .int .i64 t, .int .i64 c, .slice la ln lc], .int .i64 at_, .int .u8 (v : Nat)] w fun e w' => e = .returned (.bool true) ∧ Below w.heap.size w w' := by
  have hm := hs.max
  have hl := hs.le
  unfold maxLen at hm
  have HB0 : Hid (Below w.heap.size w (w.alloc (.cells #[.int .i64 num, .int .i64 t, .int .i64 c, .slice la ln lc] 46))) := Lib.hid ((Below.refl _ _).alloc (Nat.le_refl _) _)
  have HP0 := Lib.hid (blk_new w #[.int .i64 num, .int .i64 t, .int .i64 c, .slice la ln lc] 46)
  have HS := Lib.hid hs
  clear hs
  by_cases h30 : 3000 < ln
  · have d1 : decide ((3000 : Int) < ln) = true := by simp; omega
    go_enter Try.func8, Try.ntmps8
    go_wp2_with (go_at_call 33; refine (pwakes_any _).mono ?_; rintro e W ⟨rfl, hW⟩)
    go_ret
    exact ⟨rfl, HB0.out.trans (hW.mono HB0.out.size)⟩
  · have d1 : decide ((3000 : Int) < ln) = false := by simp; omega
    by_cases hbad : t < 1 ∨ 16 < t ∨ c < 0 ∨ 255 < c
    · go_enter Try.func8, Try.ntmps8
      go_wp2_with fail
      go_at_call 36
      refine (build_arg _ _ _ _ _ _ _ hbad (by omega)).mono ?_
      rintro e W1 ⟨rfl, hB1⟩
      have HB1 := Lib.hid (HB0.out.trans (hB1.mono HB0.out.size))
      clear hB1
      go_wp2_with (go_at_call 33; refine (pwakes_any _).mono ?_; rintro e W ⟨rfl, hW⟩)
      go_ret
      exact ⟨rfl, HB1.out.trans (hW.mono HB1.out.size)⟩
    · by_cases h14 : 1492 < ln
      · go_enter Try.func8, Try.ntmps8
        go_wp2_with fail
        go_at_call 36
        refine (build_long _ _ _ _ _ _ _ (by omega) (by omega) h14).mono ?_
        rintro e W1 ⟨rfl, hB1⟩
        have HB1 := Lib.hid (HB0.out.trans (hB1.mono HB0.out.size))
        clear hB1
        go_wp2_with (go_at_call 33; refine (pwakes_any _).mono ?_; rintro e W ⟨rfl, hW⟩)
        go_ret
        exact ⟨rfl, HB1.out.trans (hW.mono HB1.out.size)⟩
      · obtain ⟨t, rfl⟩ := Int.eq_ofNat_of_zero_le (show 0 ≤ t by omega)
        obtain ⟨c, rfl⟩ := Int.eq_ofNat_of_zero_le (show 0 ≤ c by omega)
        have ht : 1 ≤ t ∧ t ≤ 16 := by omega
        have hc : c ≤ 255 := by omega
        clear hbad
        obtain ⟨n, hn⟩ : ∃ n, n = 8 + ln := ⟨_, rfl⟩
        have hn8 : 8 ≤ n := by omega
        have hn15 : n ≤ 1500 := by omega
        obtain ⟨BZ, hBZ⟩ : ∃ BZ, BZ = builtB t c ln X := ⟨_, rfl⟩
        have HBD : Hid (∀ j, BZ j < 256) := Lib.hid (by rw [hBZ]; exact built_bd (by omega) (by omega) (by omega) HS.out.bd)
        have HOK : Hid (parseOk BZ n = true) := Lib.hid (by rw [hBZ, hn]; exact parse_built ht (by omega))
        have HNO : Hid (∀ K, K < n → v ≠ BZ K → parseOk (fun j => if j = K then v else BZ j) n = false) := Lib.hid (fun K hK hne => by
          rw [hBZ] at hne ⊢
          rw [hn] at hK ⊢
          exact parse_changed (by omega) (by omega) (by omega) HS.out.bd hv hK hne)
        have HZ1 : Hid (BZ 1 = t) := Lib.hid (by rw [hBZ]; exact built_1 _ _ _ _)
        have HZ2 : Hid (BZ 2 = c) := Lib.hid (by rw [hBZ]; exact built_2 _ _ _ _)
        have HZ8 : Hid ((fun j => BZ (8 + j)) = X) := Lib.hid (by rw [hBZ]; exact funext fun j => built_8 t c ln X j)
        have HCB : Hid (Calls Try.prog 36 #[.agg #[.int .i64 num, .int .i64 (t : Nat), .int .i64 (c : Nat), .slice la ln lc]] (w.alloc (.cells #[.int .i64 num, .int .i64 (t : Nat), .int .i64 (c : Nat), .slice la ln lc] 46)) fun e w' => ∃ v ob, e = .returned (.tuple #[v, .int .i64 0]) ∧ Row w' v (some ob) 5 1 n (rowV BZ n) ∧ w.heap.size + 1 ≤ ob ∧ Below (w.heap.size + 1) (w.alloc (.cells #[.int .i64 num, .int .i64 (t : Nat), .int .i64 (c : Nat), .slice la ln lc] 46)) w') := Lib.hid (by
          have h := build_any num t c la ln lc b o X (w.alloc (.cells #[.int .i64 num, .int .i64 (t : Nat), .int .i64 (c : Nat), .slice la ln lc] 46)) (HS.out.below HB0.out) ht hc (by omega)
          rw [World.size_alloc] at h
          rw [hn, hBZ]
          exact h)
        have HN := Lib.hid hn
        clear hBZ hn
        go_enter Try.func8, Try.ntmps8
        go_wp2_with fail
        go_at_call 36
        refine Calls.mono HCB.out ?_
        rintro e W1 ⟨vb, ob, rfl, hr, hob, hB1⟩
        obtain ⟨av, cv, rfl, hby⟩ := row_by hr HBD.out
        have hB1' : Below (w.alloc (.cells #[.int .i64 num, .int .i64 (t : Nat), .int .i64 (c : Nat), .slice la ln lc] 46)).heap.size (w.alloc (.cells #[.int .i64 num, .int .i64 (t : Nat), .int .i64 (c : Nat), .slice la ln lc] 46)) W1 := by rw [World.size_alloc]; exact hB1
        have HP1 := Lib.hid (HP0.out.step hB1')
        have HB1 := Lib.hid (HB0.out.trans (hB1'.mono HB0.out.size))
        have HR1 := Lib.hid hr
        have HBY1 := Lib.hid hby
        have hcv1 := hby.le
        have hcv2 := hby.max
        unfold maxLen at hcv2
        have HOB := Lib.hid hob
        clear hr hby hob hB1 hB1' HP0 HB0 HCB
        go_wp2_with fail
        go_at_call 37
        refine Calls.mono (parse_any _ _ _ _ _ _ _ HBY1.out) ?_
        rintro e W2 ⟨hB2, ⟨hno, _⟩ | ⟨_, a', c', b', rfl, hby2, hfr⟩⟩
        · rw [HOK.out] at hno; cases hno
        have e8 : n - 8 = ln := by have := HN.out; omega
        rw [HZ1.out, HZ2.out, e8]
        rw [HZ8.out, e8] at hby2
        rw [e8] at hfr
        have HW1z := Lib.hid hB2.size
        have hob2 := HOB.out
        have HP2 := HP1.out.step hB2
        have HN2 : Hid (w.heap.size < W2.heap.size) := Lib.hid HP2.lt
        have HR2 := Lib.hid (HR1.out.congr (w' := W2) fun g hg => by obtain rfl := Option.some.inj hg; exact hB2.block _ HR1.out.lt)
        have HB2 := Lib.hid (HB1.out.trans (hB2.mono HB1.out.size))
        have hNb : 0 < ln → b' ≠ w.heap.size := fun hp => by have := hfr hp; have := HP1.out.lt; omega
        obtain ⟨W3, hW3⟩ : ∃ W3, W3 = (W2.setCell ⟨w.heap.size, 0, none⟩ (.int .i64 0)).alloc (.cells #[.int .i64 0, .int .i64 (t : Nat), .int .i64 (c : Nat), .slice a' ln c'] 46) := ⟨_, rfl⟩
        have HP3 : Hid (Blk W3 w.heap.size #[.int .i64 0, .int .i64 (t : Nat), .int .i64 (c : Nat), .slice la ln lc] 46) := Lib.hid (by rw [hW3]; exact (HP2.set 0 (.int .i64 0)).alloc _)
        have HQ3 : Hid (Blk W3 W2.heap.size #[.int .i64 0, .int .i64 (t : Nat), .int .i64 (c : Nat), .slice a' ln c'] 46) := Lib.hid (by
          rw [hW3]
          have h := blk_new (W2.setCell ⟨w.heap.size, 0, none⟩ (.int .i64 0)) #[.int .i64 0, .int .i64 (t : Nat), .int .i64 (c : Nat), .slice a' ln c'] 46
          rw [World.size_setCell] at h
          exact h)
        have HY3 : Hid (ByIn W3 a' ln c' b' 0 X) := Lib.hid (by rw [hW3]; exact (hby2.ne _ hNb _).below ((Below.refl _ _).alloc (Nat.le_refl _) _))
        have HR3 : Hid (Row W3 (.slice av n cv) (some ob) 5 1 n (rowV BZ n)) := Lib.hid (by
          rw [hW3]
          have hR : Row (W2.setCell ⟨w.heap.size, 0, none⟩ (.int .i64 0)) (.slice av n cv) (some ob) 5 1 n (rowV BZ n) := HR2.out.congr fun g hg => by
            obtain rfl := Option.some.inj hg
            exact heap_setCell_ne _ _ _ _ (by simp only; omega)
          exact hR.alloc _)
        have HB3 : Hid (Below w.heap.size w W3) := Lib.hid (by rw [hW3]; exact (HB2.out.setCell (p := ⟨w.heap.size, 0, none⟩) (by simp) _).alloc (by rw [World.size_setCell]; exact HB2.out.size) _)
        have q0 : W2.cell? ⟨w.heap.size, 0, none⟩ = some (.int .i64 num) := cell_at HP2 0
        have qf := free_at HP2 0
        have hlt2 := HP2.lt
        clear hB2 hby2 hfr HP2
        go_upto_region 8 with fail
        rw [← hW3]
        clear hW3 q0 qf hlt2
        have p0 : W3.cell? ⟨w.heap.size, 0, none⟩ = some (.int .i64 0) := cell_at HP3.out 0
        have p1 : W3.cell? ⟨w.heap.size, 1, none⟩ = some (.int .i64 (t : Nat)) := cell_at HP3.out 1
        have p2 : W3.cell? ⟨w.heap.size, 2, none⟩ = some (.int .i64 (c : Nat)) := cell_at HP3.out 2
        have p3 : W3.cell? ⟨w.heap.size, 3, none⟩ = some (.slice la ln lc) := cell_at HP3.out 3
        have q0 : W3.cell? ⟨W2.heap.size, 0, none⟩ = some (.int .i64 0) := cell_at HQ3.out 0
        have q1 : W3.cell? ⟨W2.heap.size, 1, none⟩ = some (.int .i64 (t : Nat)) := cell_at HQ3.out 1
        have q2 : W3.cell? ⟨W2.heap.size, 2, none⟩ = some (.int .i64 (c : Nat)) := cell_at HQ3.out 2
        have q3 : W3.cell? ⟨W2.heap.size, 3, none⟩ = some (.slice a' ln c') := cell_at HQ3.out 3
        go_wp2_with fail
        go_at_call 38
        refine (same_yes _ _ _ _ _ _ _ _ _ _ _ _ _ _ _ (HS.out.below HB3.out) HY3.out (fun _ _ => rfl)).mono ?_
        rintro e W4 ⟨rfl, hB4⟩
        have HP4 := Lib.hid (HP3.out.step hB4)
        have HR4 := Lib.hid (HR3.out.congr (w' := W4) fun g hg => by obtain rfl := Option.some.inj hg; exact hB4.block _ HR3.out.lt)
        have HB4 := Lib.hid (HB3.out.trans (hB4.mono HB3.out.size))
        clear p0 p1 p2 p3 q0 q1 q2 q3 hB4 HP3 HQ3 HY3 HR3 HB3
        have p0 : W4.cell? ⟨w.heap.size, 0, none⟩ = some (.int .i64 0) := cell_at HP4.out 0
        have p1 : W4.cell? ⟨w.heap.size, 1, none⟩ = some (.int .i64 (t : Nat)) := cell_at HP4.out 1
        have p2 : W4.cell? ⟨w.heap.size, 2, none⟩ = some (.int .i64 (c : Nat)) := cell_at HP4.out 2
        have p3 : W4.cell? ⟨w.heap.size, 3, none⟩ = some (.slice la ln lc) := cell_at HP4.out 3
        have n0 : ((n : Int) == 0) = false := by simp; omega
        have n8 : ((n : Int) != 8 + (ln : Int)) = false := by simp; have := HN.out; omega
        go_wp2_with fail
        go_at_call 39
        refine (size_any _ _ _ _ _ _ _ (by omega)).mono ?_
        rintro e W5 ⟨rfl, hB5⟩
        have HR5 := Lib.hid (HR4.out.congr (w' := W5) fun g hg => by obtain rfl := Option.some.inj hg; exact hB5.block _ HR4.out.lt)
        have HB5 := Lib.hid (HB4.out.trans (hB5.mono HB4.out.size))
        clear p0 p1 p2 p3 hB5 HP4 HR4 HB4
        obtain ⟨r, hr⟩ : ∃ r, r = Int.tmod at_ (n : Int) := ⟨_, rfl⟩
        have hr1 : -(n : Int) < r ∧ r < n := by
          rw [hr]
          exact ⟨Int.neg_lt_of_neg_lt (by rw [← Int.neg_tmod]; exact Int.tmod_lt_of_pos _ (by omega)), Int.tmod_lt_of_pos _ (by omega)⟩
        obtain ⟨r1, r2⟩ := hr1
        obtain ⟨K, hK⟩ : ∃ K : Nat, (K : Int) = (r + n) % (n : Int) := ⟨((r + n) % (n : Int)).toNat, by have := Int.emod_nonneg (r + n) (b := (n : Int)) (by omega); omega⟩
        have hKn : (K : Int) < n := by rw [hK]; exact Int.emod_lt_of_pos _ (by omega)
        have hr' : Int.tmod at_ (n : Int) = r := hr.symm
        have hK' : (r + n) % (n : Int) = K := hK.symm
        clear hr hK
        go_upto_region 11 with fail
        rw [hK']
        clear hr' hK' r1 r2
        obtain ⟨e0, _⟩ := HBY1.out.at_ (by omega)
        simp only [Option.getD_some] at e0
        subst e0
        obtain ⟨g, hg, hcK, hfK⟩ := HR5.out.cell K (by omega)
        obtain rfl := Option.some.inj hg
        rw [rowV_at BZ n K (by omega)] at hcK
        have hxb := HBD.out K
        have hltob := HR5.out.lt
        have i1 : (0 : Int) ≤ (K : Int) := by omega
        by_cases hz : BZ K = v
        · rw [hz] at hcK
          clear hz hg
          go_wp2_with (go_at_call 33; refine (pwakes_any _).mono ?_; rintro e W ⟨rfl, hW⟩)
          go_ret
          exact ⟨rfl, HB5.out.trans (hW.mono HB5.out.size)⟩
        · have HNP := Lib.hid (HNO.out K (by omega) (fun e => hz e.symm))
          have d9 : ((BZ K : Int) == (v : Int)) = false := by simp; omega
          have hr6 := row_set HR5.out K (by omega) v
          obtain ⟨a2, c2, he2, hby6⟩ := row_by hr6 (fun j => by split; exact hv; exact HBD.out j)
          injection he2 with he3 _ he4
          subst he3 he4
          have HBY6 := Lib.hid hby6
          have HB6 := Lib.hid (HB5.out.setCell (p := ⟨ob, K, none⟩) (by have := HOB.out; simp only; omega) (.int .u8 (v : Nat)))
          obtain ⟨x, hx⟩ : ∃ x, x = BZ K := ⟨_, rfl⟩
          rw [← hx] at d9 hcK hxb
          clear hx hz hr6 hby6 hg
          go_wp2_with fail
          go_at_call 37
          refine Calls.mono (parse_any _ _ _ _ _ _ _ HBY6.out) ?_
          rintro e W7 ⟨hB7, ⟨_, rfl⟩ | ⟨hyes, _⟩⟩
          · have HB7 := Lib.hid (HB6.out.trans (hB7.mono HB6.out.size))
            have HB8 := Lib.hid (HB7.out.alloc HB7.out.size (.cells #[.int .i64 0, .int .i64 0, .int .i64 0, .slice none 0 0] 46))
            clear hB7
            go_wp2_with (go_at_call 33; refine (pwakes_any _).mono ?_; rintro e W ⟨rfl, hW⟩)
            go_ret
            exact ⟨rfl, HB8.out.trans (hW.mono HB8.out.size)⟩
          · rw [HNP.out] at hyes; cases hyes
theorem packetBack_walk (x : Dt) (at_ v : Int) (w : World) (hx : Fits Try.prog w 46 x) (hat : -9223372036854775808 ≤ at_ ∧ at_ ≤ 9223372036854775807) (hv : 0 ≤ v ∧ v ≤ 255) :
    Calls Try.prog 8 #[.agg x.cells.toArray, .int .i64 at_, .int .u8 v] w fun e w' => e = .returned (.bool true) ∧ Below w.heap.size w w' := by
  obtain ⟨num, t, c, la, ln, lc, _, e, _, _, _, hl⟩ := pkt_inv hx
  obtain ⟨b, o, X, hs⟩ := by_cells w hl
  obtain ⟨v, rfl⟩ := Int.eq_ofNat_of_zero_le hv.1
  rw [e]
  exact packetBack_any num t c la ln lc b o X at_ v w hs hat (by omega)
end Go.Proofs.Ytpgpcgpecpimlaa
