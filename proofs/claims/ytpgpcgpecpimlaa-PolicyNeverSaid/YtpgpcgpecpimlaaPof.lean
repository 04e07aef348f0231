/-
  Tables compared; a tenant found, one deleted with leases left: the program.
-/
import Derived.Test.YtpgpcgpecpimlaaPod
import Derived.Test.YtpgpcgpecpimlaaPo2
import Derived.Deep.RegionLaw
namespace Go.Proofs.Ytpgpcgpecpimlaa
open Go.RowKit
set_option linter.unusedSimpArgs false
set_option linter.unusedVariables false

theorem tn_eq (x : TnE) (w : World) : (Op.equal 72 (.agg #[.int .i64 x.id, .int .i64 x.rate, .int .i64 x.burst, .int .i64 x.bkt, .bool x.gone]) (.agg #[.int .i64 x.id, .int .i64 x.rate, .int .i64 x.burst, .int .i64 x.bkt, .bool x.gone])).run Try.prog w = .ok true w := by
  have hg : Try.prog.fieldsOf 72 = #[⟨"Id", 3, 0, false, "", "", 0⟩, ⟨"Rate", 3, 1, false, "", "", 8⟩, ⟨"Burst", 3, 2, false, "", "", 16⟩, ⟨"Bucket", 3, 3, false, "", "", 24⟩, ⟨"Gone", 4, 4, false, "", "", 32⟩] := by kernel_rfl
  have e1 : ∀ (d : Nat) (a b : Int), (Op.equalIn (d + 1) 3 (.int .i64 a) (.int .i64 b)).run Try.prog w = .ok (a == b) w := fun d a b => run_equalIn_int w d _ .i64 .i64 a b (by kernel_rfl)
  have e3 : ∀ g : Bool, (Op.equalIn (9998 + 1) 4 (.bool g) (.bool g)).run Try.prog w = .ok true w := fun g => by cases g <;> kernel_rfl
  show (Op.equalIn (9998 + 1 + 1) _ _ _).run _ w = _
  rw [run_equalIn_struct w _ _ _ _ (by kernel_rfl) (by kernel_rfl), hg]
  simp [Op.eqFields, part, e1, e3, go_sem]
theorem tn_neq (x : TnE) (w : World) : (binOp .neq 72 (.agg #[.int .i64 x.id, .int .i64 x.rate, .int .i64 x.burst, .int .i64 x.bkt, .bool x.gone]) (.agg #[.int .i64 x.id, .int .i64 x.rate, .int .i64 x.burst, .int .i64 x.bkt, .bool x.gone])).run Try.prog w = .ok (.bool false) w := by
  simp only [binOp]
  simp [tn_eq, Result.andThen]
theorem tn_eql (x : TnE) (w : World) : (binOp .eql 72 (.agg #[.int .i64 x.id, .int .i64 x.rate, .int .i64 x.burst, .int .i64 x.bkt, .bool x.gone]) (.agg #[.int .i64 x.id, .int .i64 x.rate, .int .i64 x.burst, .int .i64 x.bkt, .bool x.gone])).run Try.prog w = .ok (.bool true) w := by
  simp only [binOp]
  simp [tn_eq, Result.andThen]
theorem an_eq (e r b : Int) (w : World) : (Op.equal 63 (.agg #[.int .i64 e, .int .i64 r, .int .i64 b, .int .i64 0, .int .i64 0]) (.agg #[.int .i64 e, .int .i64 r, .int .i64 b, .int .i64 0, .int .i64 0])).run Try.prog w = .ok true w := by
  have hf : Try.prog.fieldsOf 63 = #[⟨"E", 27, 0, false, "", "", 0⟩, ⟨"Rate", 3, 1, false, "", "", 8⟩, ⟨"Burst", 3, 2, false, "", "", 16⟩, ⟨"Lease", 3, 3, false, "", "", 24⟩, ⟨"Size", 3, 4, false, "", "", 32⟩] := by kernel_rfl
  have e1 : ∀ (d : Nat) (a b : Int), (Op.equalIn (d + 1) 3 (.int .i64 a) (.int .i64 b)).run Try.prog w = .ok (a == b) w := fun d a b => run_equalIn_int w d _ .i64 .i64 a b (by kernel_rfl)
  have e2 : ∀ a b : Int, (Op.equalIn (9998 + 1) 27 (.int .i64 a) (.int .i64 b)).run Try.prog w = .ok (a == b) w := fun a b => run_equalIn_int w 9998 _ .i64 .i64 a b (by kernel_rfl)
  show (Op.equalIn (9998 + 1 + 1) _ _ _).run _ w = _
  rw [run_equalIn_struct w _ _ _ _ (by kernel_rfl) (by kernel_rfl), hf]
  simp [Op.eqFields, part, e1, e2, go_sem]
theorem an_eql (e r b : Int) (w : World) : (binOp .eql 63 (.agg #[.int .i64 e, .int .i64 r, .int .i64 b, .int .i64 0, .int .i64 0]) (.agg #[.int .i64 e, .int .i64 r, .int .i64 b, .int .i64 0, .int .i64 0])).run Try.prog w = .ok (.bool true) w := by
  simp only [binOp]
  simp [an_eq, Result.andThen]
set_option maxRecDepth 100000 in
set_option maxHeartbeats 4000000 in
theorem same_tv (v1 v2 : Value) (L : List TnE) (w : World) (h1 : TV w v1 L) (h2 : TV w v2 L) :
    Calls Try.prog 44 #[v1, v2] w fun e w' => e = .returned (.bool true) ∧ Below w.heap.size w w' := by
  obtain ⟨a, b, o, cap, rfl, h1⟩ := h1
  obtain ⟨a', b', o', cap', rfl, h2⟩ := h2
  have m1 := h1.le
  have m2 := h1.max
  have m3 := h2.le
  have m4 := h2.max
  unfold maxLen at m2 m4
  have H1 := Lib.hid h1
  have H2 := Lib.hid h2
  clear h1 h2
  obtain ⟨n, hn⟩ : ∃ n, n = L.length := ⟨_, rfl⟩
  rw [← hn] at m1 m3 H1 H2 ⊢
  clear hn
  go_enter Try.func44, Try.ntmps44
  go_wp2_with fail
  go_loopw [5] (fun i wr => ∃ k : Nat, k ≤ n ∧ i = .int .i64 k ∧ Below w.heap.size w wr) (fun i _ => n - (intOf i).toNat)
  case atStart => exact ⟨0, Nat.zero_le _, rfl, Below.refl _ _⟩
  case round =>
    obtain ⟨k, hk, rfl, hB⟩ := hrel
    have HB := Lib.hid hB
    clear hB
    by_cases hlt : k < n
    · have hs1 := H1.out.below HB.out
      have hs2 := H2.out.below HB.out
      obtain ⟨e0, e1⟩ := hs1.at_ (by omega)
      obtain ⟨f0, f1⟩ := hs2.at_ (by omega)
      subst e0 f0
      obtain ⟨c0, c1, c2, c3, c4⟩ := hs1.cell k hlt
      obtain ⟨d0, d1, d2, d3, d4⟩ := hs2.cell k hlt
      obtain ⟨x, hx⟩ : ∃ x, x = gt L k := ⟨_, rfl⟩
      rw [← hx] at c0 c1 c2 c3 c4 d0 d1 d2 d3 d4
      have hne := tn_neq x
      clear hs1 hs2 hx
      go_wp2_with fail
      (refine wp_region_quiet_lit (by kernel_rfl) (by kernel_rfl) ?_; (repeat (first | go_big_quiet_step (fail) | (refine BigFrame.wpQuiet_skip (by rfl) ?_; try simp only [Act.put, List.setIfInBounds_toArray, List.set_cons_zero, List.set_cons_succ]))); refine wpQuiet_nil ?_; intro _ hw9; obtain ⟨nq, hw8⟩ := hw9; subst hw8)
      go_wp2_with fail
      go_roundw
      case rel => exact ⟨k + 1, by omega, by go_num, below_dN HB.out nq⟩
      case measure => first | (simp [intOf]; done) | (simp [intOf]; omega)
    · obtain rfl : k = n := by omega
      go_wp2_with fail
      go_ret
      exact ⟨rfl, HB.out⟩
set_option maxRecDepth 100000 in
set_option maxHeartbeats 4000000 in
theorem pFind_any (v : Value) (L : List TnE) (key : Int) (w : World) (h : TV w v L) : Calls Try.prog 51 #[v, .int .i64 key] w fun e w' => e = .returned (.tuple #[((fndC key L).getD z0).agg, .bool (fndC key L).isSome]) ∧ Below w.heap.size w w' := by
  obtain ⟨N, hN⟩ : ∃ N, N = w.heap.size := ⟨_, rfl⟩
  obtain ⟨W1, hW1⟩ : ∃ W1, W1 = w.alloc (.cells #[.int .i64 0, .int .i64 0, .int .i64 0, .int .i64 0, .bool false] 72) := ⟨_, rfl⟩
  have hB1 : Below w.heap.size w W1 := by rw [hW1]; exact (Below.refl _ _).alloc (Nat.le_refl _) _
  have HK1 : Hid (Blk W1 N #[.int .i64 0, .int .i64 0, .int .i64 0, .int .i64 0, .bool false] 72) := Lib.hid (by rw [hW1, hN]; exact blk_new _ _ _)
  have HV1 := Lib.hid (h.below hB1)
  have HB1 := Lib.hid hB1
  have HNB : Hid (w.heap.size ≤ N) := Lib.hid (by rw [hN]; exact Nat.le_refl _)
  clear hB1 h
  have HCK := Lib.hid (pcheck_any v L W1 HV1.out)
  obtain ⟨R, hR⟩ : ∃ R : Value, R = .tuple #[((fndC key L).getD z0).agg, .bool (fndC key L).isSome] := ⟨_, rfl⟩
  rw [← hR]
  have HR := Lib.hid hR
  obtain ⟨C, hC⟩ : ∃ C, C = chk L := ⟨_, rfl⟩
  rw [← hC] at HCK
  have HC := Lib.hid hC
  clear hR hC
  go_enter Try.func51, Try.ntmps51
  go_upto_region 1 with fail
  rw [← hN, ← hW1]
  clear hN hW1
  cases C
  · have hRx : R = .tuple #[.agg #[.int .i64 0, .int .i64 0, .int .i64 0, .int .i64 0, .bool false], .bool false] := by rw [HR.out]; unfold fndC; rw [← HC.out]; rfl
    subst hRx
    go_wp2_with fail
    go_at_call 45
    refine Calls.mono HCK.out ?_
    rintro e W2 ⟨rfl, hB⟩
    have HK2 := Lib.hid (HK1.out.step hB)
    have HB2 := Lib.hid (HB1.out.trans (hB.mono HB1.out.size))
    clear hB
    have q0 : W2.cell? ⟨N, 0, none⟩ = some (.int .i64 0) := cell_at HK2.out 0
    have q1 : W2.cell? ⟨N, 1, none⟩ = some (.int .i64 0) := cell_at HK2.out 1
    have q2 : W2.cell? ⟨N, 2, none⟩ = some (.int .i64 0) := cell_at HK2.out 2
    have q3 : W2.cell? ⟨N, 3, none⟩ = some (.int .i64 0) := cell_at HK2.out 3
    have q4 : W2.cell? ⟨N, 4, none⟩ = some (.bool false) := cell_at HK2.out 4
    have zq : ∀ j, W2.frozen? ⟨N, j, none⟩ = false := fun j => free_at HK2.out j
    have lq : N < W2.heap.size := HK2.out.lt
    go_wp2_with fail
    clear q0 q1 q2 q3 q4
    obtain ⟨LS, hLS⟩ : ∃ L : List Value, L = [.int .i64 0, .int .i64 0, .int .i64 0, .int .i64 0, .bool false] := ⟨_, rfl⟩
    obtain ⟨WS, hWS⟩ : ∃ WS, WS = W2.setCells (N) 0 LS := ⟨_, rfl⟩
    have hchS := hWS
    rw [hLS] at hchS
    simp only [World.setCells, Nat.zero_add, Nat.reduceAdd] at hchS
    rw [← hchS]
    clear hchS
    have hkS := stC_blk HK2.out LS (by rw [hLS]; rfl)
    have hfrS := stC_fr (N) LS 0 W2
    rw [← hWS] at hkS hfrS
    rw [hLS] at hkS
    have r0 : WS.cell? ⟨N, 0, none⟩ = some (.int .i64 0) := cell_at hkS 0
    have r1 : WS.cell? ⟨N, 1, none⟩ = some (.int .i64 0) := cell_at hkS 1
    have r2 : WS.cell? ⟨N, 2, none⟩ = some (.int .i64 0) := cell_at hkS 2
    have r3 : WS.cell? ⟨N, 3, none⟩ = some (.int .i64 0) := cell_at hkS 3
    have r4 : WS.cell? ⟨N, 4, none⟩ = some (.bool false) := cell_at hkS 4
    clear hWS hLS
    have hBS := HB2.out.trans (hfrS.below HB2.out.size (by have := HNB.out; simp; omega))
    exact bodyPost_ret (v := .tuple #[.agg #[.int .i64 0, .int .i64 0, .int .i64 0, .int .i64 0, .bool false], .bool false]) (by simp [results, Try.results51, go_sem, r0, r1, r2, r3, r4]) rfl ⟨rfl, hBS⟩
  · have hRx : R = .tuple #[((fnd key L).getD z0).agg, .bool (fnd key L).isSome] := by rw [HR.out]; unfold fndC; rw [← HC.out]; rfl
    go_wp2_with fail
    go_at_call 45
    refine Calls.mono HCK.out ?_
    rintro e W2 ⟨rfl, hB⟩
    have HK2 := Lib.hid (HK1.out.step hB)
    have HB2 := Lib.hid (HB1.out.trans (hB.mono HB1.out.size))
    have hFD := pfind_ok v L key W2 (HV1.out.below hB) HC.out.symm
    clear hB
    obtain ⟨y, hy⟩ : ∃ y, y = (fnd key L).getD z0 := ⟨_, rfl⟩
    obtain ⟨b9, hb9⟩ : ∃ b9, b9 = (fnd key L).isSome := ⟨_, rfl⟩
    rw [← hy, ← hb9] at hFD hRx
    have HFD := Lib.hid hFD
    unfold TnE.agg at HFD hRx
    subst hRx
    clear hFD hy hb9
    go_wp2_with fail
    go_at_call 78
    refine Calls.mono HFD.out ?_
    rintro e W3 ⟨rfl, hB⟩
    have HK3 := Lib.hid (HK2.out.step hB)
    have HB3 := Lib.hid (HB2.out.trans (hB.mono HB2.out.size))
    clear hB
    have q0 : W3.cell? ⟨N, 0, none⟩ = some (.int .i64 0) := cell_at HK3.out 0
    have q1 : W3.cell? ⟨N, 1, none⟩ = some (.int .i64 0) := cell_at HK3.out 1
    have q2 : W3.cell? ⟨N, 2, none⟩ = some (.int .i64 0) := cell_at HK3.out 2
    have q3 : W3.cell? ⟨N, 3, none⟩ = some (.int .i64 0) := cell_at HK3.out 3
    have q4 : W3.cell? ⟨N, 4, none⟩ = some (.bool false) := cell_at HK3.out 4
    have zq : ∀ j, W3.frozen? ⟨N, j, none⟩ = false := fun j => free_at HK3.out j
    have lq : N < W3.heap.size := HK3.out.lt
    go_wp2_with fail
    clear q0 q1 q2 q3 q4
    obtain ⟨LS, hLS⟩ : ∃ L : List Value, L = [.int .i64 y.id, .int .i64 y.rate, .int .i64 y.burst, .int .i64 y.bkt, .bool y.gone] := ⟨_, rfl⟩
    obtain ⟨WS, hWS⟩ : ∃ WS, WS = W3.setCells (N) 0 LS := ⟨_, rfl⟩
    have hchS := hWS
    rw [hLS] at hchS
    simp only [World.setCells, Nat.zero_add, Nat.reduceAdd] at hchS
    rw [← hchS]
    clear hchS
    have hkS := stC_blk HK3.out LS (by rw [hLS]; rfl)
    have hfrS := stC_fr (N) LS 0 W3
    rw [← hWS] at hkS hfrS
    rw [hLS] at hkS
    have r0 : WS.cell? ⟨N, 0, none⟩ = some (.int .i64 y.id) := cell_at hkS 0
    have r1 : WS.cell? ⟨N, 1, none⟩ = some (.int .i64 y.rate) := cell_at hkS 1
    have r2 : WS.cell? ⟨N, 2, none⟩ = some (.int .i64 y.burst) := cell_at hkS 2
    have r3 : WS.cell? ⟨N, 3, none⟩ = some (.int .i64 y.bkt) := cell_at hkS 3
    have r4 : WS.cell? ⟨N, 4, none⟩ = some (.bool y.gone) := cell_at hkS 4
    clear hWS hLS
    have hBS := HB3.out.trans (hfrS.below HB3.out.size (by have := HNB.out; simp; omega))
    exact bodyPost_ret (v := .tuple #[.agg #[.int .i64 y.id, .int .i64 y.rate, .int .i64 y.burst, .int .i64 y.bkt, .bool y.gone], .bool b9]) (by simp [results, Try.results51, go_sem, r0, r1, r2, r3, r4]) rfl ⟨rfl, hBS⟩
def delX (id : Int) : TnE := ⟨id, 0, 0, 0, true⟩
def delL (L : List TnE) (id out : Int) : List TnE := if getE id L = 0 then (if 0 < out then layR (delX id) L else L.filter fun y => !decide (y.id = id)) else L
def delA (L : List TnE) (id : Int) : Value := ansV (getE id L) 0 0
set_option maxRecDepth 100000 in
set_option maxHeartbeats 8000000 in
theorem pdelete_pos (v : Value) (L : List TnE) (id out : Int) (w : World) (h : TV w v L) (hn5 : L.length ≤ 200) (hid : -9223372036854775808 ≤ id ∧ id ≤ 9223372036854775807) (hout : 0 < out) : Calls Try.prog 47 #[v, .int .i64 id, .int .i64 out] w fun e w' => ∃ v', e = .returned (.tuple #[v', delA L id]) ∧ TV w' v' (delL L id out) ∧ Below w.heap.size w w' := by
  have HVW := Lib.hid h
  obtain ⟨N0, hN0⟩ : ∃ N0, N0 = w.heap.size := ⟨_, rfl⟩
  obtain ⟨W0, hW0⟩ : ∃ W0, W0 = w.alloc (.cells #[.int .i64 id] 3) := ⟨_, rfl⟩
  have hB0 : Below w.heap.size w W0 := by rw [hW0]; exact (Below.refl _ _).alloc (Nat.le_refl _) _
  have hk0 : Blk W0 N0 #[.int .i64 id] 3 := by rw [hW0, hN0]; exact blk_new _ _ _
  have hs0 : W0.heap.size = N0 + 1 := by rw [hW0, hN0]; simp
  obtain ⟨W1, hW1⟩ : ∃ W1, W1 = W0.alloc (.cells #[.int .i64 0, .int .i64 0, .int .i64 0, .int .i64 0, .int .i64 0] 63) := ⟨_, rfl⟩
  have hB1 : Below w.heap.size w W1 := by rw [hW1]; exact hB0.alloc hB0.size _
  obtain ⟨N, hN⟩ : ∃ N, N = N0 + 1 := ⟨_, rfl⟩
  have HK1 : Hid (Blk W1 N #[.int .i64 0, .int .i64 0, .int .i64 0, .int .i64 0, .int .i64 0] 63) := Lib.hid (by rw [hW1, hN, ← hs0]; exact blk_new _ _ _)
  have HI1 : Hid (Blk W1 N0 #[.int .i64 id] 3) := Lib.hid (by rw [hW1]; exact hk0.alloc _)
  have HV1 := Lib.hid (h.below hB1)
  have HB1 := Lib.hid hB1
  have HNB : Hid (w.heap.size ≤ N) := Lib.hid (by omega)
  clear hB1 hB0 hk0 hs0 h
  obtain ⟨Y, hY⟩ : ∃ Y, Y = delL L id out := ⟨_, rfl⟩
  obtain ⟨R, hR⟩ : ∃ R, R = delA L id := ⟨_, rfl⟩
  rw [← hY, ← hR]
  have HY := Lib.hid hY
  have HR := Lib.hid hR
  obtain ⟨g, hg⟩ : ∃ g, g = getE id L := ⟨_, rfl⟩
  obtain ⟨gr, hgr⟩ : ∃ gr, gr = (getX id L).rate := ⟨_, rfl⟩
  obtain ⟨gb, hgb⟩ : ∃ gb, gb = (getX id L).burst := ⟨_, rfl⟩
  have HG := Lib.hid hg
  have HGT := Lib.hid (pget_any v L id W1 HV1.out)
  unfold getV at HGT
  rw [← hg, ← hgr, ← hgb] at HGT
  unfold ansV at HGT
  have hRx : R = .agg #[.int .i64 g, .int .i64 0, .int .i64 0, .int .i64 0, .int .i64 0] := by rw [hR, hg]; rfl
  subst hRx
  clear hY hR hg hgr hgb
  go_enter Try.func47, Try.ntmps47
  go_upto_region 1 with fail
  rw [← hN0, ← hW0, ← hW1, ← hN]
  clear hN0 hN hW0 hW1
  have i0 : W1.cell? ⟨N0, 0, none⟩ = some (.int .i64 id) := cell_at HI1.out 0
  have il : N0 < W1.heap.size := HI1.out.lt
  go_wp2_with fail
  go_at_call 49
  refine Calls.mono HGT.out ?_
  rintro e W2 ⟨rfl, hB⟩
  have HK2 := Lib.hid (HK1.out.step hB)
  have HB2 := Lib.hid (HB1.out.trans (hB.mono HB1.out.size))
  have HI2 := Lib.hid (HI1.out.step hB)
  clear i0 il
  have i0 : W2.cell? ⟨N0, 0, none⟩ = some (.int .i64 id) := cell_at HI2.out 0
  clear hB
  go_upto_region 2 with fail
  obtain ⟨K, hK⟩ : ∃ K, K = W2.heap.size := ⟨_, rfl⟩
  obtain ⟨WX, hWX⟩ : ∃ W0, W0 = W2.alloc (.cells #[.int .i64 g, .int .i64 gr, .int .i64 gb, .int .i64 0, .int .i64 0] 63) := ⟨_, rfl⟩
  have HBX : Hid (Below w.heap.size w WX) := Lib.hid (by rw [hWX]; exact HB2.out.alloc HB2.out.size _)
  have HXX := Lib.hid (show Below W2.heap.size W2 WX by rw [hWX]; exact (Below.refl _ _).alloc (Nat.le_refl _) _)
  have hkX : Blk WX K #[.int .i64 g, .int .i64 gr, .int .i64 gb, .int .i64 0, .int .i64 0] 63 := by rw [hWX, hK]; exact blk_new _ _ _
  have hKl : w.heap.size ≤ K := by rw [hK]; exact HB2.out.size
  rw [← hK, ← hWX]
  clear hWX hK
  have r0 : WX.cell? ⟨K, 0, none⟩ = some (.int .i64 g) := cell_at hkX 0
  have r1 : WX.cell? ⟨K, 1, none⟩ = some (.int .i64 gr) := cell_at hkX 1
  have r2 : WX.cell? ⟨K, 2, none⟩ = some (.int .i64 gb) := cell_at hkX 2
  have r3 : WX.cell? ⟨K, 3, none⟩ = some (.int .i64 0) := cell_at hkX 3
  have r4 : WX.cell? ⟨K, 4, none⟩ = some (.int .i64 0) := cell_at hkX 4
  have HKX := Lib.hid hkX
  have hlX : K < WX.heap.size := hkX.lt
  clear hkX
  have HKN := Lib.hid (HK2.out.step HXX.out)
  have HIX := Lib.hid (HI2.out.step HXX.out)
  clear i0
  have i0 : WX.cell? ⟨N0, 0, none⟩ = some (.int .i64 id) := cell_at HIX.out 0
  have il : N0 < WX.heap.size := HIX.out.lt
  by_cases h0 : g = 0
  · have hYx : Y = layR (delX id) L := by rw [HY.out]; unfold delL; rw [← HG.out, if_pos h0, if_pos hout]
    have HYX := Lib.hid hYx
    subst h0
    clear hYx
    have HWI := Lib.hid (lay_any v L (delX id) WX (HVW.out.below HBX.out) hn5 (by unfold TnE.ok delX; simp only; refine ⟨?_, ?_, ?_, ?_, ?_⟩ <;> first | omega | trivial))
    rw [layL_eq, ← HYX.out] at HWI
    unfold TnE.agg delX at HWI
    simp only at HWI
    go_wp2_with fail
    go_at_call 80
    refine Calls.mono HWI.out ?_
    rintro e W5 ⟨v5, rfl, hv5, hB⟩
    have HK5 := Lib.hid (HKN.out.step hB)
    have HB5 := Lib.hid (HBX.out.trans (hB.mono HBX.out.size))
    have HV5 := Lib.hid hv5
    have HNW : Hid (N < WX.heap.size) := Lib.hid HKN.out.lt
    clear hv5 hB r0 r1 r2 r3 r4 i0 il
    have q0 : W5.cell? ⟨N, 0, none⟩ = some (.int .i64 0) := cell_at HK5.out 0
    have q1 : W5.cell? ⟨N, 1, none⟩ = some (.int .i64 0) := cell_at HK5.out 1
    have q2 : W5.cell? ⟨N, 2, none⟩ = some (.int .i64 0) := cell_at HK5.out 2
    have q3 : W5.cell? ⟨N, 3, none⟩ = some (.int .i64 0) := cell_at HK5.out 3
    have q4 : W5.cell? ⟨N, 4, none⟩ = some (.int .i64 0) := cell_at HK5.out 4
    have zq : ∀ j, W5.frozen? ⟨N, j, none⟩ = false := fun j => free_at HK5.out j
    have lq : N < W5.heap.size := HK5.out.lt
    go_wp2_with fail
    clear q0 q1 q2 q3 q4
    obtain ⟨LS, hLS⟩ : ∃ L : List Value, L = [.int .i64 0, .int .i64 0, .int .i64 0, .int .i64 0, .int .i64 0] := ⟨_, rfl⟩
    obtain ⟨WS, hWS⟩ : ∃ WS, WS = W5.setCells (N) 0 LS := ⟨_, rfl⟩
    have hchS := hWS
    rw [hLS] at hchS
    simp only [World.setCells, Nat.zero_add, Nat.reduceAdd] at hchS
    rw [← hchS]
    clear hchS
    have hkS := stC_blk HK5.out LS (by rw [hLS]; rfl)
    have hfrS := stC_fr (N) LS 0 W5
    rw [← hWS] at hkS hfrS
    rw [hLS] at hkS
    have r0 : WS.cell? ⟨N, 0, none⟩ = some (.int .i64 0) := cell_at hkS 0
    have r1 : WS.cell? ⟨N, 1, none⟩ = some (.int .i64 0) := cell_at hkS 1
    have r2 : WS.cell? ⟨N, 2, none⟩ = some (.int .i64 0) := cell_at hkS 2
    have r3 : WS.cell? ⟨N, 3, none⟩ = some (.int .i64 0) := cell_at hkS 3
    have r4 : WS.cell? ⟨N, 4, none⟩ = some (.int .i64 0) := cell_at hkS 4
    clear hWS hLS
    have hBS := HB5.out.trans (hfrS.below HB5.out.size (by have := HNB.out; simp; omega))
    exact bodyPost_ret (v := .tuple #[v5, .agg #[.int .i64 0, .int .i64 0, .int .i64 0, .int .i64 0, .int .i64 0]]) (by simp [results, Try.results47, go_sem, r0, r1, r2, r3, r4]) rfl ⟨_, rfl, (HV5.out.fr hfrS HNW.out).tv, hBS⟩
  · have hYx : Y = L := by rw [HY.out]; unfold delL; rw [← HG.out, if_neg h0]
    have HYX := Lib.hid hYx
    have n1 : (g != 0) = true := bne_iff_ne.2 h0
    have n2 : (g = 0) = False := eq_false h0
    clear hYx h0
    have HRF := Lib.hid (refuse_any v L g WX (HVW.out.below HBX.out) hn5)
    unfold ansV at HRF
    go_wp2_with fail
    go_at_call 75
    refine Calls.mono HRF.out ?_
    rintro e W9 ⟨v9, rfl, hv9, hB⟩
    have HK9 := Lib.hid (HKN.out.step hB)
    have HB9 := Lib.hid (HBX.out.trans (hB.mono HBX.out.size))
    have HV9 := Lib.hid hv9
    have HN9 : Hid (N < WX.heap.size) := Lib.hid HKN.out.lt
    clear hv9 hB r0 r1 r2 r3 r4 i0 il
    have q0 : W9.cell? ⟨N, 0, none⟩ = some (.int .i64 0) := cell_at HK9.out 0
    have q1 : W9.cell? ⟨N, 1, none⟩ = some (.int .i64 0) := cell_at HK9.out 1
    have q2 : W9.cell? ⟨N, 2, none⟩ = some (.int .i64 0) := cell_at HK9.out 2
    have q3 : W9.cell? ⟨N, 3, none⟩ = some (.int .i64 0) := cell_at HK9.out 3
    have q4 : W9.cell? ⟨N, 4, none⟩ = some (.int .i64 0) := cell_at HK9.out 4
    have zq : ∀ j, W9.frozen? ⟨N, j, none⟩ = false := fun j => free_at HK9.out j
    have lq : N < W9.heap.size := HK9.out.lt
    go_wp2_with fail
    clear q0 q1 q2 q3 q4
    obtain ⟨LS, hLS⟩ : ∃ L : List Value, L = [.int .i64 g, .int .i64 0, .int .i64 0, .int .i64 0, .int .i64 0] := ⟨_, rfl⟩
    obtain ⟨WS, hWS⟩ : ∃ WS, WS = W9.setCells (N) 0 LS := ⟨_, rfl⟩
    have hchS := hWS
    rw [hLS] at hchS
    simp only [World.setCells, Nat.zero_add, Nat.reduceAdd] at hchS
    rw [← hchS]
    clear hchS
    have hkS := stC_blk HK9.out LS (by rw [hLS]; rfl)
    have hfrS := stC_fr (N) LS 0 W9
    rw [← hWS] at hkS hfrS
    rw [hLS] at hkS
    have r0 : WS.cell? ⟨N, 0, none⟩ = some (.int .i64 g) := cell_at hkS 0
    have r1 : WS.cell? ⟨N, 1, none⟩ = some (.int .i64 0) := cell_at hkS 1
    have r2 : WS.cell? ⟨N, 2, none⟩ = some (.int .i64 0) := cell_at hkS 2
    have r3 : WS.cell? ⟨N, 3, none⟩ = some (.int .i64 0) := cell_at hkS 3
    have r4 : WS.cell? ⟨N, 4, none⟩ = some (.int .i64 0) := cell_at hkS 4
    clear hWS hLS
    have hBS := HB9.out.trans (hfrS.below HB9.out.size (by have := HNB.out; simp; omega))
    exact bodyPost_ret (v := .tuple #[v9, .agg #[.int .i64 g, .int .i64 0, .int .i64 0, .int .i64 0, .int .i64 0]]) (by simp [results, Try.results47, go_sem, r0, r1, r2, r3, r4]) rfl ⟨_, rfl, by rw [HYX.out]; exact (HV9.out.fr hfrS HN9.out).tv, hBS⟩
end Go.Proofs.Ytpgpcgpecpimlaa
