/-
  A policy asked for; a tenant found, the document.
-/
import Derived.Test.YtpgpcgpecpimlaaPo7
import Derived.Test.YtpgpcgpecpimlaaPo4
import Derived.Test.YtpgpcgpecpimlaaPo2
import Derived.Deep.RegionLaw
namespace Go.Proofs.Ytpgpcgpecpimlaa
open Go.RowKit
set_option linter.unusedSimpArgs false
set_option linter.unusedVariables false

theorem fnd_step {L : List TnE} {k : Nat} (key : Int) (h : k < L.length) : fnd key (L.drop k) = if (gt L k).id = key then some (gt L k) else fnd key (L.drop (k + 1)) := by
  rw [List.drop_eq_getElem_cons h, show gt L k = L[k] from gt_of (List.getElem?_eq_getElem h)]
  unfold fnd
  by_cases he : L[k].id = key
  · rw [List.find?_cons_of_pos (by simp [he]), if_pos he]
  · rw [List.find?_cons_of_neg (by simp [he]), if_neg he]
theorem fnd_end (L : List TnE) (key : Int) : fnd key (L.drop L.length) = none := by rw [List.drop_length]; rfl
def ansV (e r b : Int) : Value := .agg #[.int .i64 e, .int .i64 r, .int .i64 b, .int .i64 0, .int .i64 0]
def fndC (key : Int) (L : List TnE) : Option TnE := if chk L then fnd key L else none
def getE (key : Int) (L : List TnE) : Int := if chk L then (match fnd key L with | some x => if x.gone then 161 else 0 | none => 161) else 2
def getX (key : Int) (L : List TnE) : TnE := if getE key L = 0 then (fnd key L).getD z0 else z0
def getV (key : Int) (L : List TnE) : Value := ansV (getE key L) (getX key L).rate (getX key L).burst
theorem getV_bad {key : Int} {L : List TnE} (h : chk L = false) : getV key L = ansV 2 0 0 := by
  have : getE key L = 2 := by unfold getE; rw [h]; rfl
  unfold getV getX; rw [this]; rfl
theorem getV_none {key : Int} {L : List TnE} (h : chk L = true) (h2 : fnd key L = none) : getV key L = ansV 161 0 0 := by
  have : getE key L = 161 := by unfold getE; rw [h, h2]; rfl
  unfold getV getX; rw [this]; rfl
theorem getV_gone {key : Int} {L : List TnE} {x : TnE} (h : chk L = true) (h2 : fnd key L = some x) (h3 : x.gone = true) : getV key L = ansV 161 0 0 := by
  have : getE key L = 161 := by unfold getE; rw [h, h2]; simp [h3]
  unfold getV getX; rw [this]; rfl
theorem getV_some {key : Int} {L : List TnE} {x : TnE} (h : chk L = true) (h2 : fnd key L = some x) (h3 : x.gone = false) : getV key L = ansV 0 x.rate x.burst := by
  have : getE key L = 0 := by unfold getE; rw [h, h2]; simp [h3]
  unfold getV getX; rw [this, h2]; rfl
theorem pfind_ok (v : Value) (L : List TnE) (key : Int) (w : World) (h : TV w v L) (hc : chk L = true) : Calls Try.prog 78 #[v, .int .i64 key] w fun e w' => e = .returned (.tuple #[((fnd key L).getD z0).agg, .bool (fnd key L).isSome]) ∧ Below w.heap.size w w' := by
  have := pfind_any v L key w h
  rw [fnd_at key L 0 hc]
  have e2 : (if isAt key L = true then some (gt L (plc key L)) else none).isSome = isAt key L := by cases isAt key L <;> rfl
  rw [e2]
  exact this
set_option maxRecDepth 100000 in
set_option maxHeartbeats 2000000 in
theorem told_any (x : TnE) (w : World) : Calls Try.prog 81 #[x.agg] w fun e w' => e = .returned (ansV 0 x.rate x.burst) ∧ Below w.heap.size w w' := by
  obtain ⟨N, hN⟩ : ∃ N, N = w.heap.size := ⟨_, rfl⟩
  obtain ⟨W0, hW0⟩ : ∃ W0, W0 = w.alloc (.cells #[.int .i64 x.id, .int .i64 x.rate, .int .i64 x.burst, .int .i64 x.bkt, .bool x.gone] 72) := ⟨_, rfl⟩
  obtain ⟨W1, hW1⟩ : ∃ W1, W1 = W0.alloc (.cells #[.int .i64 0, .int .i64 0, .int .i64 0, .int .i64 0, .int .i64 0] 63) := ⟨_, rfl⟩
  have hB0 : Below w.heap.size w W0 := by rw [hW0]; exact (Below.refl _ _).alloc (Nat.le_refl _) _
  have hB1 : Below w.heap.size w W1 := by rw [hW1]; exact hB0.alloc hB0.size _
  have hk0 : Blk W0 N #[.int .i64 x.id, .int .i64 x.rate, .int .i64 x.burst, .int .i64 x.bkt, .bool x.gone] 72 := by rw [hW0, hN]; exact blk_new _ _ _
  have hs0 : W0.heap.size = N + 1 := by rw [hW0, hN]; simp
  have hk1 : Blk W1 N #[.int .i64 x.id, .int .i64 x.rate, .int .i64 x.burst, .int .i64 x.bkt, .bool x.gone] 72 := by rw [hW1]; exact hk0.alloc _
  have HK1 : Hid (Blk W1 (N + 1) #[.int .i64 0, .int .i64 0, .int .i64 0, .int .i64 0, .int .i64 0] 63) := Lib.hid (by rw [hW1, ← hs0]; exact blk_new _ _ _)
  have HNB : Hid (w.heap.size ≤ N + 1) := Lib.hid (by omega)
  have HX := Lib.hid hk1
  have HB1 := Lib.hid hB1
  have c0 : W1.cell? ⟨N, 0, none⟩ = some (.int .i64 x.id) := cell_at HX.out 0
  have c1 : W1.cell? ⟨N, 1, none⟩ = some (.int .i64 x.rate) := cell_at HX.out 1
  have c2 : W1.cell? ⟨N, 2, none⟩ = some (.int .i64 x.burst) := cell_at HX.out 2
  have c3 : W1.cell? ⟨N, 3, none⟩ = some (.int .i64 x.bkt) := cell_at HX.out 3
  have c4 : W1.cell? ⟨N, 4, none⟩ = some (.bool x.gone) := cell_at HX.out 4
  have zc : ∀ j, W1.frozen? ⟨N, j, none⟩ = false := fun j => free_at HX.out j
  have lc : N < W1.heap.size := HX.out.lt
  have q0 : W1.cell? ⟨N + 1, 0, none⟩ = some (.int .i64 0) := cell_at HK1.out 0
  have q1 : W1.cell? ⟨N + 1, 1, none⟩ = some (.int .i64 0) := cell_at HK1.out 1
  have q2 : W1.cell? ⟨N + 1, 2, none⟩ = some (.int .i64 0) := cell_at HK1.out 2
  have q3 : W1.cell? ⟨N + 1, 3, none⟩ = some (.int .i64 0) := cell_at HK1.out 3
  have q4 : W1.cell? ⟨N + 1, 4, none⟩ = some (.int .i64 0) := cell_at HK1.out 4
  have zq : ∀ j, W1.frozen? ⟨N + 1, j, none⟩ = false := fun j => free_at HK1.out j
  have lq : N + 1 < W1.heap.size := HK1.out.lt
  clear hB0 hB1 hk0 hk1 hs0
  unfold TnE.agg
  go_enter Try.func81, Try.ntmps81
  go_upto_region 1 with fail
  rw [← hN, ← hW0, ← hW1]
  clear hN hW0 hW1 HX
  go_wp2_with fail
  clear q0 q1 q2 q3 q4 c0 c1 c2 c3 c4
  obtain ⟨LS, hLS⟩ : ∃ L : List Value, L = [.int .i64 0, .int .i64 x.rate, .int .i64 x.burst, .int .i64 0, .int .i64 0] := ⟨_, rfl⟩
  obtain ⟨WS, hWS⟩ : ∃ WS, WS = W1.setCells (N + 1) 0 LS := ⟨_, rfl⟩
  have hchS := hWS
  rw [hLS] at hchS
  simp only [World.setCells, Nat.zero_add, Nat.reduceAdd] at hchS
  rw [← hchS]
  clear hchS
  have hkS := stC_blk HK1.out LS (by rw [hLS]; rfl)
  have hfrS := stC_fr (N + 1) LS 0 W1
  rw [← hWS] at hkS hfrS
  rw [hLS] at hkS
  have r0 : WS.cell? ⟨N + 1, 0, none⟩ = some (.int .i64 0) := cell_at hkS 0
  have r1 : WS.cell? ⟨N + 1, 1, none⟩ = some (.int .i64 x.rate) := cell_at hkS 1
  have r2 : WS.cell? ⟨N + 1, 2, none⟩ = some (.int .i64 x.burst) := cell_at hkS 2
  have r3 : WS.cell? ⟨N + 1, 3, none⟩ = some (.int .i64 0) := cell_at hkS 3
  have r4 : WS.cell? ⟨N + 1, 4, none⟩ = some (.int .i64 0) := cell_at hkS 4
  clear hWS hLS
  have hBS := HB1.out.trans (hfrS.below HB1.out.size (by have := HNB.out; simp; omega))
  exact bodyPost_ret (v := .agg #[.int .i64 0, .int .i64 x.rate, .int .i64 x.burst, .int .i64 0, .int .i64 0]) (by simp [results, Try.results81, go_sem, r0, r1, r2, r3, r4]) rfl ⟨rfl, hBS⟩
set_option maxRecDepth 100000 in
set_option maxHeartbeats 4000000 in
theorem rfind_any (v : Value) (L : List TnE) (key : Int) (w : World) (h : TV w v L) : Calls Try.prog 52 #[v, .int .i64 key] w fun e w' => e = .returned (.tuple #[((fndC key L).getD z0).agg, .bool (fndC key L).isSome]) ∧ Below w.heap.size w w' := by
  obtain ⟨N, hN⟩ : ∃ N, N = w.heap.size := ⟨_, rfl⟩
  obtain ⟨W1, hW1⟩ : ∃ W1, W1 = w.alloc (.cells #[.int .i64 0, .int .i64 0, .int .i64 0, .int .i64 0, .bool false] 72) := ⟨_, rfl⟩
  have hB1 : Below w.heap.size w W1 := by rw [hW1]; exact (Below.refl _ _).alloc (Nat.le_refl _) _
  have HK1 : Hid (Blk W1 N #[.int .i64 0, .int .i64 0, .int .i64 0, .int .i64 0, .bool false] 72) := Lib.hid (by rw [hW1, hN]; exact blk_new _ _ _)
  have HV1 := Lib.hid (h.below hB1)
  have HB1 := Lib.hid hB1
  have HNB : Hid (w.heap.size ≤ N) := Lib.hid (by rw [hN]; exact Nat.le_refl _)
  clear hB1 h
  have HCK := Lib.hid (fun W (hB : Below W1.heap.size W1 W) => rcheck_any v L W (HV1.out.below hB))
  obtain ⟨R, hR⟩ : ∃ R : Value, R = .tuple #[((fndC key L).getD z0).agg, .bool (fndC key L).isSome] := ⟨_, rfl⟩
  rw [← hR]
  have HR := Lib.hid hR
  obtain ⟨C, hC⟩ : ∃ C, C = chk L := ⟨_, rfl⟩
  rw [← hC] at HCK
  have HC := Lib.hid hC
  clear hR hC
  obtain ⟨a, b, o, cap, rfl, h⟩ := HV1.out
  have m1 := h.le
  have m2 := h.max
  unfold maxLen at m2
  have H1 := Lib.hid h
  clear h
  obtain ⟨n, hn⟩ : ∃ n, n = L.length := ⟨_, rfl⟩
  have HN := Lib.hid hn
  rw [← hn] at m1 H1 HCK ⊢
  clear hn HV1
  go_enter Try.func52, Try.ntmps52
  go_upto_region 1 with fail
  rw [← hN, ← hW1]
  clear hN hW1
  go_wp2_with fail
  go_loopw [6] (fun i wr => ∃ k : Nat, k ≤ n ∧ i = .int .i64 k ∧ (C = true → fnd key (L.drop k) = fnd key L) ∧ Below W1.heap.size W1 wr) (fun i _ => n - (intOf i).toNat)
  case atStart => exact ⟨0, Nat.zero_le _, rfl, fun _ => rfl, Below.refl _ _⟩
  case round =>
    obtain ⟨k, hk, rfl, hf, hB⟩ := hrel
    have HB := Lib.hid hB
    have HF := Lib.hid hf
    clear hf hB
    by_cases hlt : k < n
    · have CK := Lib.hid (HCK.out wr HB.out)
      cases C
      · have hRx : R = .tuple #[.agg #[.int .i64 0, .int .i64 0, .int .i64 0, .int .i64 0, .bool false], .bool false] := by rw [HR.out]; unfold fndC; rw [← HC.out]; rfl
        subst hRx
        go_wp2_with fail
        go_at_call 46
        refine Calls.mono CK.out ?_
        rintro e W3 ⟨rfl, hB3⟩
        have hb3 := HB.out.trans (hB3.mono HB.out.size)
        have HK3 := Lib.hid (HK1.out.step hb3)
        have HB3 := Lib.hid (HB1.out.trans (hb3.mono HB1.out.size))
        clear hb3 hB3
        have q0 : W3.cell? ⟨N, 0, none⟩ = some (.int .i64 0) := cell_at HK3.out 0
        have q1 : W3.cell? ⟨N, 1, none⟩ = some (.int .i64 0) := cell_at HK3.out 1
        have q2 : W3.cell? ⟨N, 2, none⟩ = some (.int .i64 0) := cell_at HK3.out 2
        have q3 : W3.cell? ⟨N, 3, none⟩ = some (.int .i64 0) := cell_at HK3.out 3
        have q4 : W3.cell? ⟨N, 4, none⟩ = some (.bool false) := cell_at HK3.out 4
        have zq : ∀ j, W3.frozen? ⟨N, j, none⟩ = false := fun j => free_at HK3.out j
        have lq : N < W3.heap.size := HK3.out.lt
        go_wp2_with fail
        clear q0 q1 q2 q3 q4
        obtain ⟨LS, hLS⟩ : ∃ L : List Value, L = [.int .i64 0, .int .i64 0, .int .i64 0, .int .i64 0, .bool false] := ⟨_, rfl⟩
        obtain ⟨WS, hWS⟩ : ∃ WS, WS = W3.setCells (N) 0 LS := ⟨_, rfl⟩
        have hchS := hWS
        rw [hLS] at hchS
        simp only [World.setCells, Nat.zero_add, Nat.reduceAdd] at hchS
        rw [← hchS]
        clear hchS
        have hkS := stC_blk HK3.out LS (by rw [hLS]; rfl)
        have hfrS := stC_fr (N) LS 0 W3
        rw [← hWS] at hkS hfrS
        rw [hLS] at hkS
        have r0 : WS.cell? ⟨N, 0, none⟩ = some (.int .i64 0) := cell_at hkS 0
        have r1 : WS.cell? ⟨N, 1, none⟩ = some (.int .i64 0) := cell_at hkS 1
        have r2 : WS.cell? ⟨N, 2, none⟩ = some (.int .i64 0) := cell_at hkS 2
        have r3 : WS.cell? ⟨N, 3, none⟩ = some (.int .i64 0) := cell_at hkS 3
        have r4 : WS.cell? ⟨N, 4, none⟩ = some (.bool false) := cell_at hkS 4
        clear hWS hLS
        have hBS := HB3.out.trans (hfrS.below HB3.out.size (by have := HNB.out; simp; omega))
        exact bodyPost_ret (v := .tuple #[.agg #[.int .i64 0, .int .i64 0, .int .i64 0, .int .i64 0, .bool false], .bool false]) (by simp [results, Try.results52, go_sem, r0, r1, r2, r3, r4]) rfl ⟨rfl, hBS⟩
      · have hst := fnd_step key (L := L) (k := k) (by rw [← HN.out]; exact hlt)
        rw [HF.out rfl] at hst
        go_wp2_with fail
        go_at_call 46
        refine Calls.mono CK.out ?_
        rintro e W3 ⟨rfl, hB3⟩
        have hb3 := HB.out.trans (hB3.mono HB.out.size)
        have HKW := Lib.hid hb3
        have HK3 := Lib.hid (HK1.out.step hb3)
        have HB3 := Lib.hid (HB1.out.trans (hb3.mono HB1.out.size))
        have hs1 := H1.out.below hb3
        obtain ⟨e0, e1⟩ := hs1.at_ (by omega)
        subst e0
        obtain ⟨c0, c1, c2, c3, c4⟩ := hs1.cell k hlt
        obtain ⟨x, hx⟩ : ∃ x, x = gt L k := ⟨_, rfl⟩
        rw [← hx] at c0 c1 c2 c3 c4 hst
        have HST := Lib.hid hst
        clear hs1 hx hst hB3 hb3 CK HF
        by_cases he : x.id = key
        · have hRx : R = .tuple #[.agg #[.int .i64 x.id, .int .i64 x.rate, .int .i64 x.burst, .int .i64 x.bkt, .bool x.gone], .bool true] := by rw [HR.out]; unfold fndC; rw [← HC.out, HST.out]; simp [he, TnE.agg]
          subst hRx
          have hd : (x.id = key) = True := eq_true he
          have hd2 : (x.id == key) = true := beq_iff_eq.2 he
          clear he
          have q0 : W3.cell? ⟨N, 0, none⟩ = some (.int .i64 0) := cell_at HK3.out 0
          have q1 : W3.cell? ⟨N, 1, none⟩ = some (.int .i64 0) := cell_at HK3.out 1
          have q2 : W3.cell? ⟨N, 2, none⟩ = some (.int .i64 0) := cell_at HK3.out 2
          have q3 : W3.cell? ⟨N, 3, none⟩ = some (.int .i64 0) := cell_at HK3.out 3
          have q4 : W3.cell? ⟨N, 4, none⟩ = some (.bool false) := cell_at HK3.out 4
          have zq : ∀ j, W3.frozen? ⟨N, j, none⟩ = false := fun j => free_at HK3.out j
          have lq : N < W3.heap.size := HK3.out.lt
          go_wp2_with fail
          clear q0 q1 q2 q3 q4 c0 c1 c2 c3 c4
          obtain ⟨LS, hLS⟩ : ∃ L : List Value, L = [.int .i64 x.id, .int .i64 x.rate, .int .i64 x.burst, .int .i64 x.bkt, .bool x.gone] := ⟨_, rfl⟩
          obtain ⟨WS, hWS⟩ : ∃ WS, WS = W3.setCells (N) 0 LS := ⟨_, rfl⟩
          have hchS := hWS
          rw [hLS] at hchS
          simp only [World.setCells, Nat.zero_add, Nat.reduceAdd] at hchS
          rw [← hchS]
          clear hchS
          have hkS := stC_blk HK3.out LS (by rw [hLS]; rfl)
          have hfrS := stC_fr (N) LS 0 W3
          rw [← hWS] at hkS hfrS
          rw [hLS] at hkS
          have r0 : WS.cell? ⟨N, 0, none⟩ = some (.int .i64 x.id) := cell_at hkS 0
          have r1 : WS.cell? ⟨N, 1, none⟩ = some (.int .i64 x.rate) := cell_at hkS 1
          have r2 : WS.cell? ⟨N, 2, none⟩ = some (.int .i64 x.burst) := cell_at hkS 2
          have r3 : WS.cell? ⟨N, 3, none⟩ = some (.int .i64 x.bkt) := cell_at hkS 3
          have r4 : WS.cell? ⟨N, 4, none⟩ = some (.bool x.gone) := cell_at hkS 4
          clear hWS hLS
          have hBS := HB3.out.trans (hfrS.below HB3.out.size (by have := HNB.out; simp; omega))
          exact bodyPost_ret (v := .tuple #[.agg #[.int .i64 x.id, .int .i64 x.rate, .int .i64 x.burst, .int .i64 x.bkt, .bool x.gone], .bool true]) (by simp [results, Try.results52, go_sem, r0, r1, r2, r3, r4]) rfl ⟨rfl, hBS⟩
        · have HF2 : Hid (fnd key (L.drop (k + 1)) = fnd key L) := Lib.hid (by rw [HST.out, if_neg he])
          go_wp2_with fail
          go_roundw
          case rel => exact ⟨k + 1, by omega, by go_num, fun _ => HF2.out, HKW.out⟩
          case measure => first | (simp [intOf]; done) | (simp [intOf]; omega)
    · obtain rfl : k = n := by omega
      have hRx : R = .tuple #[.agg #[.int .i64 0, .int .i64 0, .int .i64 0, .int .i64 0, .bool false], .bool false] := by
        rw [HR.out]
        unfold fndC
        rw [← HC.out]
        cases C
        · rfl
        · rw [if_pos rfl, ← HF.out rfl, HN.out, fnd_end]
          rfl
      subst hRx
      have HK3 := Lib.hid (HK1.out.step HB.out)
      have HB3 := Lib.hid (HB1.out.trans (HB.out.mono HB1.out.size))
      have q0 : wr.cell? ⟨N, 0, none⟩ = some (.int .i64 0) := cell_at HK3.out 0
      have q1 : wr.cell? ⟨N, 1, none⟩ = some (.int .i64 0) := cell_at HK3.out 1
      have q2 : wr.cell? ⟨N, 2, none⟩ = some (.int .i64 0) := cell_at HK3.out 2
      have q3 : wr.cell? ⟨N, 3, none⟩ = some (.int .i64 0) := cell_at HK3.out 3
      have q4 : wr.cell? ⟨N, 4, none⟩ = some (.bool false) := cell_at HK3.out 4
      have zq : ∀ j, wr.frozen? ⟨N, j, none⟩ = false := fun j => free_at HK3.out j
      have lq : N < wr.heap.size := HK3.out.lt
      go_wp2_with fail
      clear q0 q1 q2 q3 q4
      obtain ⟨LS, hLS⟩ : ∃ L : List Value, L = [.int .i64 0, .int .i64 0, .int .i64 0, .int .i64 0, .bool false] := ⟨_, rfl⟩
      obtain ⟨WS, hWS⟩ : ∃ WS, WS = wr.setCells (N) 0 LS := ⟨_, rfl⟩
      have hchS := hWS
      rw [hLS] at hchS
      simp only [World.setCells, Nat.zero_add, Nat.reduceAdd] at hchS
      rw [← hchS]
      clear hchS
      have hkS := stC_blk HK3.out LS (by rw [hLS]; rfl)
      have hfrS := stC_fr (N) LS 0 wr
      rw [← hWS] at hkS hfrS
      rw [hLS] at hkS
      have r0 : WS.cell? ⟨N, 0, none⟩ = some (.int .i64 0) := cell_at hkS 0
      have r1 : WS.cell? ⟨N, 1, none⟩ = some (.int .i64 0) := cell_at hkS 1
      have r2 : WS.cell? ⟨N, 2, none⟩ = some (.int .i64 0) := cell_at hkS 2
      have r3 : WS.cell? ⟨N, 3, none⟩ = some (.int .i64 0) := cell_at hkS 3
      have r4 : WS.cell? ⟨N, 4, none⟩ = some (.bool false) := cell_at hkS 4
      clear hWS hLS
      have hBS := HB3.out.trans (hfrS.below HB3.out.size (by have := HNB.out; simp; omega))
      exact bodyPost_ret (v := .tuple #[.agg #[.int .i64 0, .int .i64 0, .int .i64 0, .int .i64 0, .bool false], .bool false]) (by simp [results, Try.results52, go_sem, r0, r1, r2, r3, r4]) rfl ⟨rfl, hBS⟩
set_option maxRecDepth 100000 in
set_option maxHeartbeats 4000000 in
theorem pget_any (v : Value) (L : List TnE) (key : Int) (w : World) (h : TV w v L) : Calls Try.prog 49 #[v, .int .i64 key] w fun e w' => e = .returned (getV key L) ∧ Below w.heap.size w w' := by
  obtain ⟨N, hN⟩ : ∃ N, N = w.heap.size := ⟨_, rfl⟩
  obtain ⟨W1, hW1⟩ : ∃ W1, W1 = w.alloc (.cells #[.int .i64 0, .int .i64 0, .int .i64 0, .int .i64 0, .int .i64 0] 63) := ⟨_, rfl⟩
  have hB1 : Below w.heap.size w W1 := by rw [hW1]; exact (Below.refl _ _).alloc (Nat.le_refl _) _
  have HK1 : Hid (Blk W1 N #[.int .i64 0, .int .i64 0, .int .i64 0, .int .i64 0, .int .i64 0] 63) := Lib.hid (by rw [hW1, hN]; exact blk_new _ _ _)
  have HV1 := Lib.hid (h.below hB1)
  have HB1 := Lib.hid hB1
  have HNB : Hid (w.heap.size ≤ N) := Lib.hid (by rw [hN]; exact Nat.le_refl _)
  clear hB1 h
  have HCK := Lib.hid (pcheck_any v L W1 HV1.out)
  obtain ⟨R, hR⟩ : ∃ R, R = getV key L := ⟨_, rfl⟩
  rw [← hR]
  have HR := Lib.hid hR
  obtain ⟨C, hC⟩ : ∃ C, C = chk L := ⟨_, rfl⟩
  rw [← hC] at HCK
  have HC := Lib.hid hC
  clear hR hC
  go_enter Try.func49, Try.ntmps49
  go_upto_region 1 with fail
  rw [← hN, ← hW1]
  clear hN hW1
  go_wp2_with fail
  go_at_call 45
  refine Calls.mono HCK.out ?_
  rintro e W2 ⟨rfl, hB2⟩
  have HK2 := Lib.hid (HK1.out.step hB2)
  have HV2 := Lib.hid (HV1.out.below hB2)
  have HB2 := Lib.hid (HB1.out.trans (hB2.mono HB1.out.size))
  clear HK1 HB1 hB2 HV1 HCK
  cases C
  · have hRx := HR.out.trans (getV_bad HC.out.symm)
    unfold ansV at hRx
    subst hRx
    have q0 : W2.cell? ⟨N, 0, none⟩ = some (.int .i64 0) := cell_at HK2.out 0
    have q1 : W2.cell? ⟨N, 1, none⟩ = some (.int .i64 0) := cell_at HK2.out 1
    have q2 : W2.cell? ⟨N, 2, none⟩ = some (.int .i64 0) := cell_at HK2.out 2
    have q3 : W2.cell? ⟨N, 3, none⟩ = some (.int .i64 0) := cell_at HK2.out 3
    have q4 : W2.cell? ⟨N, 4, none⟩ = some (.int .i64 0) := cell_at HK2.out 4
    have zq : ∀ j, W2.frozen? ⟨N, j, none⟩ = false := fun j => free_at HK2.out j
    have lq : N < W2.heap.size := HK2.out.lt
    go_wp2_with fail
    clear q0 q1 q2 q3 q4
    obtain ⟨LS, hLS⟩ : ∃ L : List Value, L = [.int .i64 2, .int .i64 0, .int .i64 0, .int .i64 0, .int .i64 0] := ⟨_, rfl⟩
    obtain ⟨WS, hWS⟩ : ∃ WS, WS = W2.setCells (N) 0 LS := ⟨_, rfl⟩
    have hchS := hWS
    rw [hLS] at hchS
    simp only [World.setCells, Nat.zero_add, Nat.reduceAdd] at hchS
    rw [← hchS]
    clear hchS
    have hkS := stC_blk HK2.out LS (by rw [hLS]; rfl)
    have hfrS := stC_fr (N) LS 0 W2
    rw [← hWS] at hkS hfrS
    rw [hLS] at hkS
    have r0 : WS.cell? ⟨N, 0, none⟩ = some (.int .i64 2) := cell_at hkS 0
    have r1 : WS.cell? ⟨N, 1, none⟩ = some (.int .i64 0) := cell_at hkS 1
    have r2 : WS.cell? ⟨N, 2, none⟩ = some (.int .i64 0) := cell_at hkS 2
    have r3 : WS.cell? ⟨N, 3, none⟩ = some (.int .i64 0) := cell_at hkS 3
    have r4 : WS.cell? ⟨N, 4, none⟩ = some (.int .i64 0) := cell_at hkS 4
    clear hWS hLS
    have hBS := HB2.out.trans (hfrS.below HB2.out.size (by have := HNB.out; simp; omega))
    exact bodyPost_ret (v := .agg #[.int .i64 2, .int .i64 0, .int .i64 0, .int .i64 0, .int .i64 0]) (by simp [results, Try.results49, go_sem, r0, r1, r2, r3, r4]) rfl ⟨rfl, hBS⟩
  · have hFD := pfind_ok v L key W2 HV2.out HC.out.symm
    obtain ⟨F, hF⟩ : ∃ F, F = fnd key L := ⟨_, rfl⟩
    rw [← hF] at hFD
    have HFD := Lib.hid hFD
    have HF := Lib.hid hF
    clear hF hFD
    cases F with
    | none =>
      have hRx := HR.out.trans (getV_none HC.out.symm HF.out.symm)
      unfold ansV at hRx
      subst hRx
      go_wp2_with fail
      go_at_call 78
      refine Calls.mono HFD.out ?_
      rintro e W3 ⟨rfl, hB3⟩
      have HK3 := Lib.hid (HK2.out.step hB3)
      have HB3 := Lib.hid (HB2.out.trans (hB3.mono HB2.out.size))
      clear HK2 HB2 hB3 HV2 HFD
      simp only [Option.getD_none, Option.getD_some, Option.isSome_none, Option.isSome_some, TnE.agg, z0]
      go_upto_region 4 with fail
      obtain ⟨M, hM⟩ : ∃ M, M = W3.heap.size := ⟨_, rfl⟩
      obtain ⟨WX, hWX⟩ : ∃ W0, W0 = W3.alloc (.cells #[.int .i64 0, .int .i64 0, .int .i64 0, .int .i64 0, .bool false] 72) := ⟨_, rfl⟩
      have HBX : Hid (Below w.heap.size w WX) := Lib.hid (by rw [hWX]; exact HB3.out.alloc HB3.out.size _)
      have HXX := Lib.hid (show Below W3.heap.size W3 WX by rw [hWX]; exact (Below.refl _ _).alloc (Nat.le_refl _) _)
      have hkX : Blk WX M #[.int .i64 0, .int .i64 0, .int .i64 0, .int .i64 0, .bool false] 72 := by rw [hWX, hM]; exact blk_new _ _ _
      have hMl : w.heap.size ≤ M := by rw [hM]; exact HB3.out.size
      rw [← hM, ← hWX]
      clear hWX hM
      have r0 : WX.cell? ⟨M, 0, none⟩ = some (.int .i64 0) := cell_at hkX 0
      have r1 : WX.cell? ⟨M, 1, none⟩ = some (.int .i64 0) := cell_at hkX 1
      have r2 : WX.cell? ⟨M, 2, none⟩ = some (.int .i64 0) := cell_at hkX 2
      have r3 : WX.cell? ⟨M, 3, none⟩ = some (.int .i64 0) := cell_at hkX 3
      have r4 : WX.cell? ⟨M, 4, none⟩ = some (.bool false) := cell_at hkX 4
      have HKX := Lib.hid hkX
      have hlX : M < WX.heap.size := hkX.lt
      clear hkX
      have HKN := Lib.hid (HK3.out.step HXX.out)
      have q0 : WX.cell? ⟨N, 0, none⟩ = some (.int .i64 0) := cell_at HKN.out 0
      have q1 : WX.cell? ⟨N, 1, none⟩ = some (.int .i64 0) := cell_at HKN.out 1
      have q2 : WX.cell? ⟨N, 2, none⟩ = some (.int .i64 0) := cell_at HKN.out 2
      have q3 : WX.cell? ⟨N, 3, none⟩ = some (.int .i64 0) := cell_at HKN.out 3
      have q4 : WX.cell? ⟨N, 4, none⟩ = some (.int .i64 0) := cell_at HKN.out 4
      have zq : ∀ j, WX.frozen? ⟨N, j, none⟩ = false := fun j => free_at HKN.out j
      have lq : N < WX.heap.size := HKN.out.lt
      go_wp2_with fail
      clear q0 q1 q2 q3 q4 r0 r1 r2 r3 r4
      obtain ⟨LS, hLS⟩ : ∃ L : List Value, L = [.int .i64 161, .int .i64 0, .int .i64 0, .int .i64 0, .int .i64 0] := ⟨_, rfl⟩
      obtain ⟨WS, hWS⟩ : ∃ WS, WS = WX.setCells (N) 0 LS := ⟨_, rfl⟩
      have hchS := hWS
      rw [hLS] at hchS
      simp only [World.setCells, Nat.zero_add, Nat.reduceAdd] at hchS
      rw [← hchS]
      clear hchS
      have hkS := stC_blk HKN.out LS (by rw [hLS]; rfl)
      have hfrS := stC_fr (N) LS 0 WX
      rw [← hWS] at hkS hfrS
      rw [hLS] at hkS
      have r0 : WS.cell? ⟨N, 0, none⟩ = some (.int .i64 161) := cell_at hkS 0
      have r1 : WS.cell? ⟨N, 1, none⟩ = some (.int .i64 0) := cell_at hkS 1
      have r2 : WS.cell? ⟨N, 2, none⟩ = some (.int .i64 0) := cell_at hkS 2
      have r3 : WS.cell? ⟨N, 3, none⟩ = some (.int .i64 0) := cell_at hkS 3
      have r4 : WS.cell? ⟨N, 4, none⟩ = some (.int .i64 0) := cell_at hkS 4
      clear hWS hLS
      have hBS := HBX.out.trans (hfrS.below HBX.out.size (by have := HNB.out; simp; omega))
      exact bodyPost_ret (v := .agg #[.int .i64 161, .int .i64 0, .int .i64 0, .int .i64 0, .int .i64 0]) (by simp [results, Try.results49, go_sem, r0, r1, r2, r3, r4]) rfl ⟨rfl, hBS⟩
    | some x =>
      go_wp2_with fail
      go_at_call 78
      refine Calls.mono HFD.out ?_
      rintro e W3 ⟨rfl, hB3⟩
      have HK3 := Lib.hid (HK2.out.step hB3)
      have HB3 := Lib.hid (HB2.out.trans (hB3.mono HB2.out.size))
      clear HK2 HB2 hB3 HV2 HFD
      simp only [Option.getD_none, Option.getD_some, Option.isSome_none, Option.isSome_some, TnE.agg, z0]
      go_upto_region 4 with fail
      obtain ⟨M, hM⟩ : ∃ M, M = W3.heap.size := ⟨_, rfl⟩
      obtain ⟨WX, hWX⟩ : ∃ W0, W0 = W3.alloc (.cells #[.int .i64 x.id, .int .i64 x.rate, .int .i64 x.burst, .int .i64 x.bkt, .bool x.gone] 72) := ⟨_, rfl⟩
      have HBX : Hid (Below w.heap.size w WX) := Lib.hid (by rw [hWX]; exact HB3.out.alloc HB3.out.size _)
      have HXX := Lib.hid (show Below W3.heap.size W3 WX by rw [hWX]; exact (Below.refl _ _).alloc (Nat.le_refl _) _)
      have hkX : Blk WX M #[.int .i64 x.id, .int .i64 x.rate, .int .i64 x.burst, .int .i64 x.bkt, .bool x.gone] 72 := by rw [hWX, hM]; exact blk_new _ _ _
      have hMl : w.heap.size ≤ M := by rw [hM]; exact HB3.out.size
      rw [← hM, ← hWX]
      clear hWX hM
      have r0 : WX.cell? ⟨M, 0, none⟩ = some (.int .i64 x.id) := cell_at hkX 0
      have r1 : WX.cell? ⟨M, 1, none⟩ = some (.int .i64 x.rate) := cell_at hkX 1
      have r2 : WX.cell? ⟨M, 2, none⟩ = some (.int .i64 x.burst) := cell_at hkX 2
      have r3 : WX.cell? ⟨M, 3, none⟩ = some (.int .i64 x.bkt) := cell_at hkX 3
      have r4 : WX.cell? ⟨M, 4, none⟩ = some (.bool x.gone) := cell_at hkX 4
      have HKX := Lib.hid hkX
      have hlX : M < WX.heap.size := hkX.lt
      clear hkX
      have HKN := Lib.hid (HK3.out.step HXX.out)
      have q0 : WX.cell? ⟨N, 0, none⟩ = some (.int .i64 0) := cell_at HKN.out 0
      have q1 : WX.cell? ⟨N, 1, none⟩ = some (.int .i64 0) := cell_at HKN.out 1
      have q2 : WX.cell? ⟨N, 2, none⟩ = some (.int .i64 0) := cell_at HKN.out 2
      have q3 : WX.cell? ⟨N, 3, none⟩ = some (.int .i64 0) := cell_at HKN.out 3
      have q4 : WX.cell? ⟨N, 4, none⟩ = some (.int .i64 0) := cell_at HKN.out 4
      have zq : ∀ j, WX.frozen? ⟨N, j, none⟩ = false := fun j => free_at HKN.out j
      have lq : N < WX.heap.size := HKN.out.lt
      obtain ⟨xi, xr, xb, xk, xg⟩ := x
      simp only at r0 r1 r2 r3 r4 HKX ⊢
      cases xg
      · have hRx := HR.out.trans (getV_some HC.out.symm HF.out.symm rfl)
        unfold ansV at hRx
        simp only at hRx
        subst hRx
        have HTD := Lib.hid (told_any ⟨xi, xr, xb, xk, false⟩ WX)
        unfold TnE.agg ansV at HTD
        simp only at HTD
        clear q0 q1 q2 q3 q4 zq lq
        go_wp2_with fail
        go_at_call 81
        refine Calls.mono HTD.out ?_
        rintro e W4 ⟨rfl, hB4⟩
        have HK4 := Lib.hid (HKN.out.step hB4)
        have HB4 := Lib.hid (HBX.out.trans (hB4.mono HBX.out.size))
        clear r0 r1 r2 r3 r4
        have q0 : W4.cell? ⟨N, 0, none⟩ = some (.int .i64 0) := cell_at HK4.out 0
        have q1 : W4.cell? ⟨N, 1, none⟩ = some (.int .i64 0) := cell_at HK4.out 1
        have q2 : W4.cell? ⟨N, 2, none⟩ = some (.int .i64 0) := cell_at HK4.out 2
        have q3 : W4.cell? ⟨N, 3, none⟩ = some (.int .i64 0) := cell_at HK4.out 3
        have q4 : W4.cell? ⟨N, 4, none⟩ = some (.int .i64 0) := cell_at HK4.out 4
        have zq : ∀ j, W4.frozen? ⟨N, j, none⟩ = false := fun j => free_at HK4.out j
        have lq : N < W4.heap.size := HK4.out.lt
        go_wp2_with fail
        clear q0 q1 q2 q3 q4
        obtain ⟨LS, hLS⟩ : ∃ L : List Value, L = [.int .i64 0, .int .i64 xr, .int .i64 xb, .int .i64 0, .int .i64 0] := ⟨_, rfl⟩
        obtain ⟨WS, hWS⟩ : ∃ WS, WS = W4.setCells (N) 0 LS := ⟨_, rfl⟩
        have hchS := hWS
        rw [hLS] at hchS
        simp only [World.setCells, Nat.zero_add, Nat.reduceAdd] at hchS
        rw [← hchS]
        clear hchS
        have hkS := stC_blk HK4.out LS (by rw [hLS]; rfl)
        have hfrS := stC_fr (N) LS 0 W4
        rw [← hWS] at hkS hfrS
        rw [hLS] at hkS
        have r0 : WS.cell? ⟨N, 0, none⟩ = some (.int .i64 0) := cell_at hkS 0
        have r1 : WS.cell? ⟨N, 1, none⟩ = some (.int .i64 xr) := cell_at hkS 1
        have r2 : WS.cell? ⟨N, 2, none⟩ = some (.int .i64 xb) := cell_at hkS 2
        have r3 : WS.cell? ⟨N, 3, none⟩ = some (.int .i64 0) := cell_at hkS 3
        have r4 : WS.cell? ⟨N, 4, none⟩ = some (.int .i64 0) := cell_at hkS 4
        clear hWS hLS
        have hBS := HB4.out.trans (hfrS.below HB4.out.size (by have := HNB.out; simp; omega))
        exact bodyPost_ret (v := .agg #[.int .i64 0, .int .i64 xr, .int .i64 xb, .int .i64 0, .int .i64 0]) (by simp [results, Try.results49, go_sem, r0, r1, r2, r3, r4]) rfl ⟨rfl, hBS⟩
      · have hRx := HR.out.trans (getV_gone HC.out.symm HF.out.symm rfl)
        unfold ansV at hRx
        subst hRx
        go_wp2_with fail
        clear q0 q1 q2 q3 q4 r0 r1 r2 r3 r4
        obtain ⟨LS, hLS⟩ : ∃ L : List Value, L = [.int .i64 161, .int .i64 0, .int .i64 0, .int .i64 0, .int .i64 0] := ⟨_, rfl⟩
        obtain ⟨WS, hWS⟩ : ∃ WS, WS = WX.setCells (N) 0 LS := ⟨_, rfl⟩
        have hchS := hWS
        rw [hLS] at hchS
        simp only [World.setCells, Nat.zero_add, Nat.reduceAdd] at hchS
        rw [← hchS]
        clear hchS
        have hkS := stC_blk HKN.out LS (by rw [hLS]; rfl)
        have hfrS := stC_fr (N) LS 0 WX
        rw [← hWS] at hkS hfrS
        rw [hLS] at hkS
        have r0 : WS.cell? ⟨N, 0, none⟩ = some (.int .i64 161) := cell_at hkS 0
        have r1 : WS.cell? ⟨N, 1, none⟩ = some (.int .i64 0) := cell_at hkS 1
        have r2 : WS.cell? ⟨N, 2, none⟩ = some (.int .i64 0) := cell_at hkS 2
        have r3 : WS.cell? ⟨N, 3, none⟩ = some (.int .i64 0) := cell_at hkS 3
        have r4 : WS.cell? ⟨N, 4, none⟩ = some (.int .i64 0) := cell_at hkS 4
        clear hWS hLS
        have hBS := HBX.out.trans (hfrS.below HBX.out.size (by have := HNB.out; simp; omega))
        exact bodyPost_ret (v := .agg #[.int .i64 161, .int .i64 0, .int .i64 0, .int .i64 0, .int .i64 0]) (by simp [results, Try.results49, go_sem, r0, r1, r2, r3, r4]) rfl ⟨rfl, hBS⟩
set_option maxRecDepth 100000 in
set_option maxHeartbeats 4000000 in
theorem rget_any (v : Value) (L : List TnE) (key : Int) (w : World) (h : TV w v L) : Calls Try.prog 50 #[v, .int .i64 key] w fun e w' => e = .returned (getV key L) ∧ Below w.heap.size w w' := by
  obtain ⟨N, hN⟩ : ∃ N, N = w.heap.size := ⟨_, rfl⟩
  obtain ⟨W1, hW1⟩ : ∃ W1, W1 = w.alloc (.cells #[.int .i64 0, .int .i64 0, .int .i64 0, .int .i64 0, .int .i64 0] 63) := ⟨_, rfl⟩
  have hB1 : Below w.heap.size w W1 := by rw [hW1]; exact (Below.refl _ _).alloc (Nat.le_refl _) _
  have HK1 : Hid (Blk W1 N #[.int .i64 0, .int .i64 0, .int .i64 0, .int .i64 0, .int .i64 0] 63) := Lib.hid (by rw [hW1, hN]; exact blk_new _ _ _)
  have HV1 := Lib.hid (h.below hB1)
  have HB1 := Lib.hid hB1
  have HNB : Hid (w.heap.size ≤ N) := Lib.hid (by rw [hN]; exact Nat.le_refl _)
  clear hB1 h
  have HCK := Lib.hid (rcheck_any v L W1 HV1.out)
  obtain ⟨R, hR⟩ : ∃ R, R = getV key L := ⟨_, rfl⟩
  rw [← hR]
  have HR := Lib.hid hR
  obtain ⟨C, hC⟩ : ∃ C, C = chk L := ⟨_, rfl⟩
  rw [← hC] at HCK
  have HC := Lib.hid hC
  clear hR hC
  go_enter Try.func50, Try.ntmps50
  go_upto_region 1 with fail
  rw [← hN, ← hW1]
  clear hN hW1
  go_wp2_with fail
  go_at_call 46
  refine Calls.mono HCK.out ?_
  rintro e W2 ⟨rfl, hB2⟩
  have HK2 := Lib.hid (HK1.out.step hB2)
  have HV2 := Lib.hid (HV1.out.below hB2)
  have HB2 := Lib.hid (HB1.out.trans (hB2.mono HB1.out.size))
  clear HK1 HB1 hB2 HV1 HCK
  cases C
  · have hRx := HR.out.trans (getV_bad HC.out.symm)
    unfold ansV at hRx
    subst hRx
    have q0 : W2.cell? ⟨N, 0, none⟩ = some (.int .i64 0) := cell_at HK2.out 0
    have q1 : W2.cell? ⟨N, 1, none⟩ = some (.int .i64 0) := cell_at HK2.out 1
    have q2 : W2.cell? ⟨N, 2, none⟩ = some (.int .i64 0) := cell_at HK2.out 2
    have q3 : W2.cell? ⟨N, 3, none⟩ = some (.int .i64 0) := cell_at HK2.out 3
    have q4 : W2.cell? ⟨N, 4, none⟩ = some (.int .i64 0) := cell_at HK2.out 4
    have zq : ∀ j, W2.frozen? ⟨N, j, none⟩ = false := fun j => free_at HK2.out j
    have lq : N < W2.heap.size := HK2.out.lt
    go_wp2_with fail
    clear q0 q1 q2 q3 q4
    obtain ⟨LS, hLS⟩ : ∃ L : List Value, L = [.int .i64 2, .int .i64 0, .int .i64 0, .int .i64 0, .int .i64 0] := ⟨_, rfl⟩
    obtain ⟨WS, hWS⟩ : ∃ WS, WS = W2.setCells (N) 0 LS := ⟨_, rfl⟩
    have hchS := hWS
    rw [hLS] at hchS
    simp only [World.setCells, Nat.zero_add, Nat.reduceAdd] at hchS
    rw [← hchS]
    clear hchS
    have hkS := stC_blk HK2.out LS (by rw [hLS]; rfl)
    have hfrS := stC_fr (N) LS 0 W2
    rw [← hWS] at hkS hfrS
    rw [hLS] at hkS
    have r0 : WS.cell? ⟨N, 0, none⟩ = some (.int .i64 2) := cell_at hkS 0
    have r1 : WS.cell? ⟨N, 1, none⟩ = some (.int .i64 0) := cell_at hkS 1
    have r2 : WS.cell? ⟨N, 2, none⟩ = some (.int .i64 0) := cell_at hkS 2
    have r3 : WS.cell? ⟨N, 3, none⟩ = some (.int .i64 0) := cell_at hkS 3
    have r4 : WS.cell? ⟨N, 4, none⟩ = some (.int .i64 0) := cell_at hkS 4
    clear hWS hLS
    have hBS := HB2.out.trans (hfrS.below HB2.out.size (by have := HNB.out; simp; omega))
    exact bodyPost_ret (v := .agg #[.int .i64 2, .int .i64 0, .int .i64 0, .int .i64 0, .int .i64 0]) (by simp [results, Try.results50, go_sem, r0, r1, r2, r3, r4]) rfl ⟨rfl, hBS⟩
  · have hFD := rfind_any v L key W2 HV2.out
    rw [show fndC key L = fnd key L by unfold fndC; rw [← HC.out]; rfl] at hFD
    obtain ⟨F, hF⟩ : ∃ F, F = fnd key L := ⟨_, rfl⟩
    rw [← hF] at hFD
    have HFD := Lib.hid hFD
    have HF := Lib.hid hF
    clear hF hFD
    cases F with
    | none =>
      have hRx := HR.out.trans (getV_none HC.out.symm HF.out.symm)
      unfold ansV at hRx
      subst hRx
      go_wp2_with fail
      go_at_call 52
      refine Calls.mono HFD.out ?_
      rintro e W3 ⟨rfl, hB3⟩
      have HK3 := Lib.hid (HK2.out.step hB3)
      have HB3 := Lib.hid (HB2.out.trans (hB3.mono HB2.out.size))
      clear HK2 HB2 hB3 HV2 HFD
      simp only [Option.getD_none, Option.getD_some, Option.isSome_none, Option.isSome_some, TnE.agg, z0]
      go_upto_region 4 with fail
      obtain ⟨M, hM⟩ : ∃ M, M = W3.heap.size := ⟨_, rfl⟩
      obtain ⟨WX, hWX⟩ : ∃ W0, W0 = W3.alloc (.cells #[.int .i64 0, .int .i64 0, .int .i64 0, .int .i64 0, .bool false] 72) := ⟨_, rfl⟩
      have HBX : Hid (Below w.heap.size w WX) := Lib.hid (by rw [hWX]; exact HB3.out.alloc HB3.out.size _)
      have HXX := Lib.hid (show Below W3.heap.size W3 WX by rw [hWX]; exact (Below.refl _ _).alloc (Nat.le_refl _) _)
      have hkX : Blk WX M #[.int .i64 0, .int .i64 0, .int .i64 0, .int .i64 0, .bool false] 72 := by rw [hWX, hM]; exact blk_new _ _ _
      have hMl : w.heap.size ≤ M := by rw [hM]; exact HB3.out.size
      rw [← hM, ← hWX]
      clear hWX hM
      have r0 : WX.cell? ⟨M, 0, none⟩ = some (.int .i64 0) := cell_at hkX 0
      have r1 : WX.cell? ⟨M, 1, none⟩ = some (.int .i64 0) := cell_at hkX 1
      have r2 : WX.cell? ⟨M, 2, none⟩ = some (.int .i64 0) := cell_at hkX 2
      have r3 : WX.cell? ⟨M, 3, none⟩ = some (.int .i64 0) := cell_at hkX 3
      have r4 : WX.cell? ⟨M, 4, none⟩ = some (.bool false) := cell_at hkX 4
      have HKX := Lib.hid hkX
      have hlX : M < WX.heap.size := hkX.lt
      clear hkX
      have HKN := Lib.hid (HK3.out.step HXX.out)
      have q0 : WX.cell? ⟨N, 0, none⟩ = some (.int .i64 0) := cell_at HKN.out 0
      have q1 : WX.cell? ⟨N, 1, none⟩ = some (.int .i64 0) := cell_at HKN.out 1
      have q2 : WX.cell? ⟨N, 2, none⟩ = some (.int .i64 0) := cell_at HKN.out 2
      have q3 : WX.cell? ⟨N, 3, none⟩ = some (.int .i64 0) := cell_at HKN.out 3
      have q4 : WX.cell? ⟨N, 4, none⟩ = some (.int .i64 0) := cell_at HKN.out 4
      have zq : ∀ j, WX.frozen? ⟨N, j, none⟩ = false := fun j => free_at HKN.out j
      have lq : N < WX.heap.size := HKN.out.lt
      go_wp2_with fail
      clear q0 q1 q2 q3 q4 r0 r1 r2 r3 r4
      obtain ⟨LS, hLS⟩ : ∃ L : List Value, L = [.int .i64 161, .int .i64 0, .int .i64 0, .int .i64 0, .int .i64 0] := ⟨_, rfl⟩
      obtain ⟨WS, hWS⟩ : ∃ WS, WS = WX.setCells (N) 0 LS := ⟨_, rfl⟩
      have hchS := hWS
      rw [hLS] at hchS
      simp only [World.setCells, Nat.zero_add, Nat.reduceAdd] at hchS
      rw [← hchS]
      clear hchS
      have hkS := stC_blk HKN.out LS (by rw [hLS]; rfl)
      have hfrS := stC_fr (N) LS 0 WX
      rw [← hWS] at hkS hfrS
      rw [hLS] at hkS
      have r0 : WS.cell? ⟨N, 0, none⟩ = some (.int .i64 161) := cell_at hkS 0
      have r1 : WS.cell? ⟨N, 1, none⟩ = some (.int .i64 0) := cell_at hkS 1
      have r2 : WS.cell? ⟨N, 2, none⟩ = some (.int .i64 0) := cell_at hkS 2
      have r3 : WS.cell? ⟨N, 3, none⟩ = some (.int .i64 0) := cell_at hkS 3
      have r4 : WS.cell? ⟨N, 4, none⟩ = some (.int .i64 0) := cell_at hkS 4
      clear hWS hLS
      have hBS := HBX.out.trans (hfrS.below HBX.out.size (by have := HNB.out; simp; omega))
      exact bodyPost_ret (v := .agg #[.int .i64 161, .int .i64 0, .int .i64 0, .int .i64 0, .int .i64 0]) (by simp [results, Try.results50, go_sem, r0, r1, r2, r3, r4]) rfl ⟨rfl, hBS⟩
    | some x =>
      go_wp2_with fail
      go_at_call 52
      refine Calls.mono HFD.out ?_
      rintro e W3 ⟨rfl, hB3⟩
      have HK3 := Lib.hid (HK2.out.step hB3)
      have HB3 := Lib.hid (HB2.out.trans (hB3.mono HB2.out.size))
      clear HK2 HB2 hB3 HV2 HFD
      simp only [Option.getD_none, Option.getD_some, Option.isSome_none, Option.isSome_some, TnE.agg, z0]
      go_upto_region 4 with fail
      obtain ⟨M, hM⟩ : ∃ M, M = W3.heap.size := ⟨_, rfl⟩
      obtain ⟨WX, hWX⟩ : ∃ W0, W0 = W3.alloc (.cells #[.int .i64 x.id, .int .i64 x.rate, .int .i64 x.burst, .int .i64 x.bkt, .bool x.gone] 72) := ⟨_, rfl⟩
      have HBX : Hid (Below w.heap.size w WX) := Lib.hid (by rw [hWX]; exact HB3.out.alloc HB3.out.size _)
      have HXX := Lib.hid (show Below W3.heap.size W3 WX by rw [hWX]; exact (Below.refl _ _).alloc (Nat.le_refl _) _)
      have hkX : Blk WX M #[.int .i64 x.id, .int .i64 x.rate, .int .i64 x.burst, .int .i64 x.bkt, .bool x.gone] 72 := by rw [hWX, hM]; exact blk_new _ _ _
      have hMl : w.heap.size ≤ M := by rw [hM]; exact HB3.out.size
      rw [← hM, ← hWX]
      clear hWX hM
      have r0 : WX.cell? ⟨M, 0, none⟩ = some (.int .i64 x.id) := cell_at hkX 0
      have r1 : WX.cell? ⟨M, 1, none⟩ = some (.int .i64 x.rate) := cell_at hkX 1
      have r2 : WX.cell? ⟨M, 2, none⟩ = some (.int .i64 x.burst) := cell_at hkX 2
      have r3 : WX.cell? ⟨M, 3, none⟩ = some (.int .i64 x.bkt) := cell_at hkX 3
      have r4 : WX.cell? ⟨M, 4, none⟩ = some (.bool x.gone) := cell_at hkX 4
      have HKX := Lib.hid hkX
      have hlX : M < WX.heap.size := hkX.lt
      clear hkX
      have HKN := Lib.hid (HK3.out.step HXX.out)
      have q0 : WX.cell? ⟨N, 0, none⟩ = some (.int .i64 0) := cell_at HKN.out 0
      have q1 : WX.cell? ⟨N, 1, none⟩ = some (.int .i64 0) := cell_at HKN.out 1
      have q2 : WX.cell? ⟨N, 2, none⟩ = some (.int .i64 0) := cell_at HKN.out 2
      have q3 : WX.cell? ⟨N, 3, none⟩ = some (.int .i64 0) := cell_at HKN.out 3
      have q4 : WX.cell? ⟨N, 4, none⟩ = some (.int .i64 0) := cell_at HKN.out 4
      have zq : ∀ j, WX.frozen? ⟨N, j, none⟩ = false := fun j => free_at HKN.out j
      have lq : N < WX.heap.size := HKN.out.lt
      obtain ⟨xi, xr, xb, xk, xg⟩ := x
      simp only at r0 r1 r2 r3 r4 HKX ⊢
      cases xg
      · have hRx := HR.out.trans (getV_some HC.out.symm HF.out.symm rfl)
        unfold ansV at hRx
        simp only at hRx
        subst hRx
        go_wp2_with fail
        clear q0 q1 q2 q3 q4 r0 r1 r2 r3 r4
        obtain ⟨LS, hLS⟩ : ∃ L : List Value, L = [.int .i64 0, .int .i64 xr, .int .i64 xb, .int .i64 0, .int .i64 0] := ⟨_, rfl⟩
        obtain ⟨WS, hWS⟩ : ∃ WS, WS = WX.setCells (N) 0 LS := ⟨_, rfl⟩
        have hchS := hWS
        rw [hLS] at hchS
        simp only [World.setCells, Nat.zero_add, Nat.reduceAdd] at hchS
        rw [← hchS]
        clear hchS
        have hkS := stC_blk HKN.out LS (by rw [hLS]; rfl)
        have hfrS := stC_fr (N) LS 0 WX
        rw [← hWS] at hkS hfrS
        rw [hLS] at hkS
        have r0 : WS.cell? ⟨N, 0, none⟩ = some (.int .i64 0) := cell_at hkS 0
        have r1 : WS.cell? ⟨N, 1, none⟩ = some (.int .i64 xr) := cell_at hkS 1
        have r2 : WS.cell? ⟨N, 2, none⟩ = some (.int .i64 xb) := cell_at hkS 2
        have r3 : WS.cell? ⟨N, 3, none⟩ = some (.int .i64 0) := cell_at hkS 3
        have r4 : WS.cell? ⟨N, 4, none⟩ = some (.int .i64 0) := cell_at hkS 4
        clear hWS hLS
        have hBS := HBX.out.trans (hfrS.below HBX.out.size (by have := HNB.out; simp; omega))
        exact bodyPost_ret (v := .agg #[.int .i64 0, .int .i64 xr, .int .i64 xb, .int .i64 0, .int .i64 0]) (by simp [results, Try.results50, go_sem, r0, r1, r2, r3, r4]) rfl ⟨rfl, hBS⟩
      · have hRx := HR.out.trans (getV_gone HC.out.symm HF.out.symm rfl)
        unfold ansV at hRx
        subst hRx
        go_wp2_with fail
        clear q0 q1 q2 q3 q4 r0 r1 r2 r3 r4
        obtain ⟨LS, hLS⟩ : ∃ L : List Value, L = [.int .i64 161, .int .i64 0, .int .i64 0, .int .i64 0, .int .i64 0] := ⟨_, rfl⟩
        obtain ⟨WS, hWS⟩ : ∃ WS, WS = WX.setCells (N) 0 LS := ⟨_, rfl⟩
        have hchS := hWS
        rw [hLS] at hchS
        simp only [World.setCells, Nat.zero_add, Nat.reduceAdd] at hchS
        rw [← hchS]
        clear hchS
        have hkS := stC_blk HKN.out LS (by rw [hLS]; rfl)
        have hfrS := stC_fr (N) LS 0 WX
        rw [← hWS] at hkS hfrS
        rw [hLS] at hkS
        have r0 : WS.cell? ⟨N, 0, none⟩ = some (.int .i64 161) := cell_at hkS 0
        have r1 : WS.cell? ⟨N, 1, none⟩ = some (.int .i64 0) := cell_at hkS 1
        have r2 : WS.cell? ⟨N, 2, none⟩ = some (.int .i64 0) := cell_at hkS 2
        have r3 : WS.cell? ⟨N, 3, none⟩ = some (.int .i64 0) := cell_at hkS 3
        have r4 : WS.cell? ⟨N, 4, none⟩ = some (.int .i64 0) := cell_at hkS 4
        clear hWS hLS
        have hBS := HBX.out.trans (hfrS.below HBX.out.size (by have := HNB.out; simp; omega))
        exact bodyPost_ret (v := .agg #[.int .i64 161, .int .i64 0, .int .i64 0, .int .i64 0, .int .i64 0]) (by simp [results, Try.results50, go_sem, r0, r1, r2, r3, r4]) rfl ⟨rfl, hBS⟩
end Go.Proofs.Ytpgpcgpecpimlaa
