/-
  A command done on a table: the program.
-/
import Derived.Test.YthmjlomlceljkaaHi9
import Derived.Test.YthmjlomlceljkaaHia
import Derived.Test.YthmjlomlceljkaaHi4
import Derived.Deep.DeepFit
import Derived.Lib.AppendZeros
import Derived.Deep.RegionLaw
import Derived.Deep.RegionWith
import Derived.Lib.EndianBits
import Derived.Deep.MidRow
namespace Go.Proofs.Ythmjlomlceljkaa
open Go.RowKit
set_option linter.unusedSimpArgs false
set_option linter.unusedVariables false

theorem FcO.le {M M' : Nat} {W : World} {v : Value} {ob : Option Nat} {L : List FcE} (h : FcO M W v ob L) (hm : M' ≤ M) : FcO M' W v ob L := ⟨h.1, h.2.1, fun g e => Nat.le_trans hm (h.2.2 g e)⟩
theorem do_bad {t : List FcE} {k n r b : Int} (h : (tblB 0 t && cmdB k n) = false) : doF t k n r b = ⟨t, 2, 0, 0⟩ := by unfold doF; rw [if_pos h]
theorem do_rate {t : List FcE} {n r b : Int} (h : (tblB 0 t && cmdB 1 n) = true) (hm : mayR r b = false) : doF t 1 n r b = ⟨t, 160, 0, 0⟩ := by unfold doF; rw [if_neg (by rw [h]; simp), if_pos rfl, if_neg (by rw [hm]; simp)]
theorem do_put {t : List FcE} {n r b : Int} (h : (tblB 0 t && cmdB 1 n) = true) (hm : mayR r b = true) : doF t 1 n r b = ⟨t.filter (fun f => decide (f.tenant < n)) ++ [⟨0, n, r, b⟩] ++ t.filter (fun f => decide (n < f.tenant)), 0, r, b⟩ := by unfold doF; rw [if_neg (by rw [h]; simp), if_pos rfl, if_pos hm]
theorem do_none {t : List FcE} {k n r b : Int} (h : (tblB 0 t && cmdB k n) = true) (hk : k ≠ 1) (hf : t.find? (fun f => decide (f.tenant = n)) = none) : doF t k n r b = ⟨t, 161, 0, 0⟩ := by unfold doF; rw [if_neg (by rw [h]; simp), if_neg hk, hf]
theorem do_get {t : List FcE} {n r b : Int} {f : FcE} (h : (tblB 0 t && cmdB 2 n) = true) (hf : t.find? (fun f => decide (f.tenant = n)) = some f) : doF t 2 n r b = ⟨t, 0, f.rate, f.burst⟩ := by unfold doF; rw [if_neg (by rw [h]; simp), if_neg (by decide), hf]; rfl
theorem do_del {t : List FcE} {k n r b : Int} {f : FcE} (h : (tblB 0 t && cmdB k n) = true) (h1 : k ≠ 1) (h2 : k ≠ 2) (hf : t.find? (fun f => decide (f.tenant = n)) = some f) : doF t k n r b = ⟨t.filter (fun f => decide (f.tenant < n)) ++ t.filter (fun f => decide (n < f.tenant)), 0, 0, 0⟩ := by unfold doF; rw [if_neg (by rw [h]; simp), if_neg h1, hf]; simp only; rw [if_neg h2]
/-- a table where its tenant stands -/
theorem tbl_at {L : List FcE} {n : Int} {f : FcE} (ht : tblB 0 L = true) (hf : L.find? (fun f => decide (f.tenant = n)) = some f) :
    L[(L.filter (fun f => decide (f.tenant < n))).length]? = some f ∧ f.tenant = n ∧ L.eraseIdx (L.filter (fun f => decide (f.tenant < n))).length = L.filter (fun f => decide (f.tenant < n)) ++ L.filter (fun f => decide (n < f.tenant)) ∧
    ∀ r b, L.set (L.filter (fun f => decide (f.tenant < n))).length ⟨0, n, r, b⟩ = L.filter (fun f => decide (f.tenant < n)) ++ [⟨0, n, r, b⟩] ++ L.filter (fun f => decide (n < f.tenant)) := by
  have hs := tbl_split n ht
  rw [hf] at hs
  simp only at hs
  obtain ⟨A, hA⟩ : ∃ A, A = L.filter (fun f => decide (f.tenant < n)) := ⟨_, rfl⟩
  obtain ⟨B, hB⟩ : ∃ B, B = L.filter (fun f => decide (n < f.tenant)) := ⟨_, rfl⟩
  rw [← hA, ← hB] at hs ⊢
  have hft : f.tenant = n := by simpa using List.find?_some hf
  rw [hs]
  refine ⟨by simp, hft, ?_, fun r b => ?_⟩
  · rw [List.append_assoc, List.eraseIdx_append_of_length_le (Nat.le_refl _)]
    simp
  · rw [List.append_assoc, List.set_append_right _ _ (Nat.le_refl _)]
    simp
theorem tbl_ins {L : List FcE} {n : Int} (ht : tblB 0 L = true) (hf : L.find? (fun f => decide (f.tenant = n)) = none) (x : FcE) :
    L.take (L.filter (fun f => decide (f.tenant < n))).length ++ [x] ++ L.drop (L.filter (fun f => decide (f.tenant < n))).length = L.filter (fun f => decide (f.tenant < n)) ++ [x] ++ L.filter (fun f => decide (n < f.tenant)) := by
  have hs := tbl_split n ht
  rw [hf] at hs
  simp only [List.append_nil] at hs
  obtain ⟨A, hA⟩ : ∃ A, A = L.filter (fun f => decide (f.tenant < n)) := ⟨_, rfl⟩
  obtain ⟨B, hB⟩ : ∃ B, B = L.filter (fun f => decide (n < f.tenant)) := ⟨_, rfl⟩
  rw [← hA, ← hB] at hs ⊢
  rw [hs]
  simp
set_option maxRecDepth 100000 in
set_option maxHeartbeats 24000000 in
theorem do_any (c : CaE) (v : Value) (t : List FcE) (w : World) (h : FcV w v t) (hl : t.length ≤ 200) :
    Calls Try.prog 20 #[v, .agg #[.int .i8 c.kind, .int .i64 c.client, .int .i64 c.number, .int .i64 c.tenant, .int .i64 c.crate, .int .i64 c.cburst, .int .i64 c.shaper, .int .i64 c.epoch, .int .i64 c.clease, .int .i64 c.csize, .int .i64 c.spent, .bool c.closed, .slice c.lsa c.lsn c.lsc]] w fun e w' => ∃ v' ob, e = .returned (.tuple #[v', .agg #[.int .i64 (doC t c).e, .int .i64 (doC t c).r, .int .i64 (doC t c).b, .int .i64 0, .int .i64 0]]) ∧ FcO w.heap.size w' v' ob (doC t c).l ∧ Below w.heap.size w w' := by
  obtain ⟨D, hD⟩ : ∃ D, D = doC t c := ⟨_, rfl⟩
  rw [← hD]
  have HD := Lib.hid hD
  clear hD
  unfold doC at HD
  obtain ⟨kind, client, number, tenant, crate, cburst, shaper, epoch, clease, csize, spent, closed, lsa, lsn, lsc, fr, til, ae, rate, burst, lease, size⟩ := c
  simp only at HD ⊢
  have HMA := Lib.hid (fun W => mayAsk_any ⟨kind, client, number, tenant, crate, cburst, shaper, epoch, clease, csize, spent, closed, lsa, lsn, lsc, 0, 0, 0, 0, 0, 0, 0⟩ W)
  simp only at HMA
  have HPM := Lib.hid (fun W => pmay_any crate cburst W)
  have HT := Lib.hid h
  have HT0 := Lib.hid h
  clear h
  obtain ⟨B1, hB1⟩ : ∃ B1, B1 = tblB 0 t := ⟨_, rfl⟩
  obtain ⟨B2, hB2⟩ : ∃ B2, B2 = cmdB kind tenant := ⟨_, rfl⟩
  obtain ⟨B3, hB3⟩ : ∃ B3, B3 = mayR crate cburst := ⟨_, rfl⟩
  rw [← hB2] at HMA
  rw [← hB3] at HPM
  have HMB := Lib.hid (fun v W (h : FcV W v t) => mayBe_any v t W h)
  rw [← hB1] at HMB
  have HB1 := Lib.hid hB1
  have HB2 := Lib.hid hB2
  have HB3 := Lib.hid hB3
  have HL := Lib.hid hl
  clear hB1 hB2 hB3 hl
  have HB : Hid (Below w.heap.size w w) := Lib.hid (Below.refl _ _)
  go_enter Try.func20, Try.ntmps20
  go_upto_region 1 with fail
  obtain ⟨N, hN⟩ : ∃ n0, n0 = w.heap.size := ⟨_, rfl⟩
  have HLON : Hid (w.heap.size ≤ N) := Lib.hid (by have := HB.out.size; omega)
  obtain ⟨W1, hA0⟩ : ∃ W0, W0 = w.alloc (.cells #[.int .i8 kind, .int .i64 client, .int .i64 number, .int .i64 tenant, .int .i64 crate, .int .i64 cburst, .int .i64 shaper, .int .i64 epoch, .int .i64 clease, .int .i64 csize, .int .i64 spent, .bool closed, .slice lsa lsn lsc] 51) := ⟨_, rfl⟩
  have hB : Below w.heap.size w W1 := by rw [hA0]; exact (Below.refl _ _).alloc (Nat.le_refl _) _
  have hS0 : W1.heap.size = N + 1 := by rw [hA0]; simp [← hN]
  have HK := Lib.hid (show Blk W1 N #[.int .i8 kind, .int .i64 client, .int .i64 number, .int .i64 tenant, .int .i64 crate, .int .i64 cburst, .int .i64 shaper, .int .i64 epoch, .int .i64 clease, .int .i64 csize, .int .i64 spent, .bool closed, .slice lsa lsn lsc] 51 by rw [hA0, hN]; exact blk_new _ _ _)
  replace HB := Lib.hid (HB.out.trans (hB.mono HB.out.size))
  replace HT := Lib.hid (HT0.out.below HB.out)
  clear hB
  obtain ⟨W2, hA1⟩ : ∃ W0, W0 = W1.alloc (.cells #[.int .i64 0, .int .i64 0, .int .i64 0, .int .i64 0, .int .i64 0] 54) := ⟨_, rfl⟩
  have hB : Below W1.heap.size W1 W2 := by rw [hA1]; exact (Below.refl _ _).alloc (Nat.le_refl _) _
  have hS1 : W2.heap.size = N + 2 := by rw [hA1]; simp [hS0]
  have HA := Lib.hid (show Blk W2 (N + 1) #[.int .i64 0, .int .i64 0, .int .i64 0, .int .i64 0, .int .i64 0] 54 by rw [hA1, ← hS0]; exact blk_new _ _ _)
  replace HB := Lib.hid (HB.out.trans (hB.mono HB.out.size))
  replace HT := Lib.hid (HT0.out.below HB.out)
  replace HK := Lib.hid (HK.out.step hB)
  clear hB
  have HSN := Lib.hid hS1
  rw [← hN, ← hA0, ← hA1]
  clear hA1 hA0 hN hS0 hS1
  obtain ⟨M, hM⟩ : ∃ n0, n0 = W2.heap.size := ⟨_, rfl⟩
  have HLOM : Hid (w.heap.size ≤ M) := Lib.hid (by have := HB.out.size; omega)
  have HFM : Hid (M ≤ W2.heap.size) := Lib.hid (by omega)
  have HXMHK : Hid (N < M) := Lib.hid (by rw [hM]; exact HK.out.lt)
  have HXMHA : Hid ((N + 1) < M) := Lib.hid (by rw [hM]; exact HA.out.lt)
  clear hM
  have HFM0 := Lib.hid HFM.out
  go_wp2_with fail
  go_at_call 40
  go_fit (fcclone_any _ t _ HT.out (by have := HL.out; omega))
  rintro e W3 ⟨v1, ob1, rfl, hv1, hB⟩
  replace HB := Lib.hid (HB.out.trans (hB.mono HB.out.size))
  replace HT := Lib.hid (HT0.out.below HB.out)
  replace HK := Lib.hid (HK.out.step hB)
  replace HA := Lib.hid (HA.out.step hB)
  replace HFM := Lib.hid (Nat.le_trans HFM.out hB.size)
  clear hB
  obtain ⟨a1, n1, c1, rfl, Hn1, q1, q2⟩ := hv1.v.sh
  have HO := Lib.hid (hv1.le HFM0.out)
  have FHO := HXMHA
  clear hv1 HFM0
  have qK0 : W3.cell? ⟨N, 0, none⟩ = some (.int .i8 kind) := cell_at HK.out 0
  have qK1 : W3.cell? ⟨N, 1, none⟩ = some (.int .i64 client) := cell_at HK.out 1
  have qK2 : W3.cell? ⟨N, 2, none⟩ = some (.int .i64 number) := cell_at HK.out 2
  have qK3 : W3.cell? ⟨N, 3, none⟩ = some (.int .i64 tenant) := cell_at HK.out 3
  have qK4 : W3.cell? ⟨N, 4, none⟩ = some (.int .i64 crate) := cell_at HK.out 4
  have qK5 : W3.cell? ⟨N, 5, none⟩ = some (.int .i64 cburst) := cell_at HK.out 5
  have qK6 : W3.cell? ⟨N, 6, none⟩ = some (.int .i64 shaper) := cell_at HK.out 6
  have qK7 : W3.cell? ⟨N, 7, none⟩ = some (.int .i64 epoch) := cell_at HK.out 7
  have qK8 : W3.cell? ⟨N, 8, none⟩ = some (.int .i64 clease) := cell_at HK.out 8
  have qK9 : W3.cell? ⟨N, 9, none⟩ = some (.int .i64 csize) := cell_at HK.out 9
  have qK10 : W3.cell? ⟨N, 10, none⟩ = some (.int .i64 spent) := cell_at HK.out 10
  have qK11 : W3.cell? ⟨N, 11, none⟩ = some (.bool closed) := cell_at HK.out 11
  have qK12 : W3.cell? ⟨N, 12, none⟩ = some (.slice lsa lsn lsc) := cell_at HK.out 12
  have qKz : ∀ j, W3.frozen? ⟨N, j, none⟩ = false := fun j => free_at HK.out j
  have qKl : N < W3.heap.size := HK.out.lt
  cases B1
  · skip
    go_wp2_with fail
    go_at_call 41
    go_fit (HMB.out _ _ HT.out)
    rintro e W4 ⟨rfl, hB⟩
    clear qK0 qK1 qK2 qK3 qK4 qK5 qK6 qK7 qK8 qK9 qK10 qK11 qK12 qKz qKl
    replace HB := Lib.hid (HB.out.trans (hB.mono HB.out.size))
    replace HT := Lib.hid (HT0.out.below HB.out)
    replace HK := Lib.hid (HK.out.step hB)
    replace HA := Lib.hid (HA.out.step hB)
    replace HFM := Lib.hid (Nat.le_trans HFM.out hB.size)
    replace HO := Lib.hid (HO.out.step hB)
    clear hB
    have hd := do_bad (t := t) (k := kind) (n := tenant) (r := crate) (b := cburst) (by rw [← HB1.out]; rfl)
    rw [hd] at HD
    have hD := HD.out
    subst hD
    have qK0 : W4.cell? ⟨N, 0, none⟩ = some (.int .i8 kind) := cell_at HK.out 0
    have qK1 : W4.cell? ⟨N, 1, none⟩ = some (.int .i64 client) := cell_at HK.out 1
    have qK2 : W4.cell? ⟨N, 2, none⟩ = some (.int .i64 number) := cell_at HK.out 2
    have qK3 : W4.cell? ⟨N, 3, none⟩ = some (.int .i64 tenant) := cell_at HK.out 3
    have qK4 : W4.cell? ⟨N, 4, none⟩ = some (.int .i64 crate) := cell_at HK.out 4
    have qK5 : W4.cell? ⟨N, 5, none⟩ = some (.int .i64 cburst) := cell_at HK.out 5
    have qK6 : W4.cell? ⟨N, 6, none⟩ = some (.int .i64 shaper) := cell_at HK.out 6
    have qK7 : W4.cell? ⟨N, 7, none⟩ = some (.int .i64 epoch) := cell_at HK.out 7
    have qK8 : W4.cell? ⟨N, 8, none⟩ = some (.int .i64 clease) := cell_at HK.out 8
    have qK9 : W4.cell? ⟨N, 9, none⟩ = some (.int .i64 csize) := cell_at HK.out 9
    have qK10 : W4.cell? ⟨N, 10, none⟩ = some (.int .i64 spent) := cell_at HK.out 10
    have qK11 : W4.cell? ⟨N, 11, none⟩ = some (.bool closed) := cell_at HK.out 11
    have qK12 : W4.cell? ⟨N, 12, none⟩ = some (.slice lsa lsn lsc) := cell_at HK.out 12
    have qKz : ∀ j, W4.frozen? ⟨N, j, none⟩ = false := fun j => free_at HK.out j
    have qKl : N < W4.heap.size := HK.out.lt
    have qA0 : W4.cell? ⟨(N + 1), 0, none⟩ = some (.int .i64 0) := cell_at HA.out 0
    have qA1 : W4.cell? ⟨(N + 1), 1, none⟩ = some (.int .i64 0) := cell_at HA.out 1
    have qA2 : W4.cell? ⟨(N + 1), 2, none⟩ = some (.int .i64 0) := cell_at HA.out 2
    have qA3 : W4.cell? ⟨(N + 1), 3, none⟩ = some (.int .i64 0) := cell_at HA.out 3
    have qA4 : W4.cell? ⟨(N + 1), 4, none⟩ = some (.int .i64 0) := cell_at HA.out 4
    have qAz : ∀ j, W4.frozen? ⟨(N + 1), j, none⟩ = false := fun j => free_at HA.out j
    have qAl : (N + 1) < W4.heap.size := HA.out.lt
    go_wp2_with fail
    clear qK0 qK1 qK2 qK3 qK4 qK5 qK6 qK7 qK8 qK9 qK10 qK11 qK12 qKz qKl qA0 qA1 qA2 qA3 qA4 qAz qAl
    obtain ⟨LS, hLS⟩ : ∃ L : List Value, L = [.int .i64 2, .int .i64 0, .int .i64 0, .int .i64 0, .int .i64 0] := ⟨_, rfl⟩
    obtain ⟨W5, hWS⟩ : ∃ WS, WS = W4.setCells (N + 1) 0 LS := ⟨_, rfl⟩
    have hch := hWS
    rw [hLS] at hch
    simp only [World.setCells, Nat.zero_add, Nat.reduceAdd] at hch
    rw [← hch]
    clear hch
    have hkS := stC_blk HA.out LS (by rw [hLS]; rfl)
    have hfS := stC_fr (N + 1) LS 0 W4
    rw [← hWS] at hkS hfS
    rw [hLS] at hkS
    replace HB := Lib.hid (HB.out.trans (hfS.below HB.out.size (by have := HLON.out; simp; try omega)))
    replace HT := Lib.hid (HT0.out.below HB.out)
    replace HK := Lib.hid (show Blk W5 N #[.int .i8 kind, .int .i64 client, .int .i64 number, .int .i64 tenant, .int .i64 crate, .int .i64 cburst, .int .i64 shaper, .int .i64 epoch, .int .i64 clease, .int .i64 csize, .int .i64 spent, .bool closed, .slice lsa lsn lsc] 51 from (hfS.block _ HK.out.lt (by simp; try omega)).trans HK.out)
    replace HFM := Lib.hid (Nat.le_trans HFM.out hfS.size)
    replace HO := Lib.hid (HO.out.fr hfS (by have := FHO.out; omega))
    replace HA := Lib.hid (show Blk W5 (N + 1) #[.int .i64 2, .int .i64 0, .int .i64 0, .int .i64 0, .int .i64 0] 54 from hkS)
    clear hWS hLS hkS hfS
    have qA0 : W5.cell? ⟨(N + 1), 0, none⟩ = some (.int .i64 2) := cell_at HA.out 0
    have qA1 : W5.cell? ⟨(N + 1), 1, none⟩ = some (.int .i64 0) := cell_at HA.out 1
    have qA2 : W5.cell? ⟨(N + 1), 2, none⟩ = some (.int .i64 0) := cell_at HA.out 2
    have qA3 : W5.cell? ⟨(N + 1), 3, none⟩ = some (.int .i64 0) := cell_at HA.out 3
    have qA4 : W5.cell? ⟨(N + 1), 4, none⟩ = some (.int .i64 0) := cell_at HA.out 4
    have qAz : ∀ j, W5.frozen? ⟨(N + 1), j, none⟩ = false := fun j => free_at HA.out j
    have qAl : (N + 1) < W5.heap.size := HA.out.lt
    exact bodyPost_ret (v := .tuple #[.slice a1 n1 c1, .agg #[.int .i64 2, .int .i64 0, .int .i64 0, .int .i64 0, .int .i64 0]]) (by simp [results, Try.results20, go_sem, qA0, qA1, qA2, qA3, qA4]) rfl ⟨_, rfl, ⟨_, HO.out.le HLOM.out⟩, HB.out⟩
  go_wp2_with fail
  go_at_call 41
  go_fit (HMB.out _ _ HT.out)
  rintro e W4 ⟨rfl, hB⟩
  clear qK0 qK1 qK2 qK3 qK4 qK5 qK6 qK7 qK8 qK9 qK10 qK11 qK12 qKz qKl
  replace HB := Lib.hid (HB.out.trans (hB.mono HB.out.size))
  replace HT := Lib.hid (HT0.out.below HB.out)
  replace HK := Lib.hid (HK.out.step hB)
  replace HA := Lib.hid (HA.out.step hB)
  replace HFM := Lib.hid (Nat.le_trans HFM.out hB.size)
  replace HO := Lib.hid (HO.out.step hB)
  clear hB
  have qK0 : W4.cell? ⟨N, 0, none⟩ = some (.int .i8 kind) := cell_at HK.out 0
  have qK1 : W4.cell? ⟨N, 1, none⟩ = some (.int .i64 client) := cell_at HK.out 1
  have qK2 : W4.cell? ⟨N, 2, none⟩ = some (.int .i64 number) := cell_at HK.out 2
  have qK3 : W4.cell? ⟨N, 3, none⟩ = some (.int .i64 tenant) := cell_at HK.out 3
  have qK4 : W4.cell? ⟨N, 4, none⟩ = some (.int .i64 crate) := cell_at HK.out 4
  have qK5 : W4.cell? ⟨N, 5, none⟩ = some (.int .i64 cburst) := cell_at HK.out 5
  have qK6 : W4.cell? ⟨N, 6, none⟩ = some (.int .i64 shaper) := cell_at HK.out 6
  have qK7 : W4.cell? ⟨N, 7, none⟩ = some (.int .i64 epoch) := cell_at HK.out 7
  have qK8 : W4.cell? ⟨N, 8, none⟩ = some (.int .i64 clease) := cell_at HK.out 8
  have qK9 : W4.cell? ⟨N, 9, none⟩ = some (.int .i64 csize) := cell_at HK.out 9
  have qK10 : W4.cell? ⟨N, 10, none⟩ = some (.int .i64 spent) := cell_at HK.out 10
  have qK11 : W4.cell? ⟨N, 11, none⟩ = some (.bool closed) := cell_at HK.out 11
  have qK12 : W4.cell? ⟨N, 12, none⟩ = some (.slice lsa lsn lsc) := cell_at HK.out 12
  have qKz : ∀ j, W4.frozen? ⟨N, j, none⟩ = false := fun j => free_at HK.out j
  have qKl : N < W4.heap.size := HK.out.lt
  go_wp2_with fail
  go_at_call 42
  go_fit (HMA.out _)
  rintro e W5 ⟨rfl, hB⟩
  clear qK0 qK1 qK2 qK3 qK4 qK5 qK6 qK7 qK8 qK9 qK10 qK11 qK12 qKz qKl
  replace HB := Lib.hid (HB.out.trans (hB.mono HB.out.size))
  replace HT := Lib.hid (HT0.out.below HB.out)
  replace HK := Lib.hid (HK.out.step hB)
  replace HA := Lib.hid (HA.out.step hB)
  replace HFM := Lib.hid (Nat.le_trans HFM.out hB.size)
  replace HO := Lib.hid (HO.out.step hB)
  clear hB
  cases B2
  · skip
    have hd := do_bad (t := t) (k := kind) (n := tenant) (r := crate) (b := cburst) (by rw [← HB1.out, ← HB2.out]; rfl)
    rw [hd] at HD
    have hD := HD.out
    subst hD
    have qK0 : W5.cell? ⟨N, 0, none⟩ = some (.int .i8 kind) := cell_at HK.out 0
    have qK1 : W5.cell? ⟨N, 1, none⟩ = some (.int .i64 client) := cell_at HK.out 1
    have qK2 : W5.cell? ⟨N, 2, none⟩ = some (.int .i64 number) := cell_at HK.out 2
    have qK3 : W5.cell? ⟨N, 3, none⟩ = some (.int .i64 tenant) := cell_at HK.out 3
    have qK4 : W5.cell? ⟨N, 4, none⟩ = some (.int .i64 crate) := cell_at HK.out 4
    have qK5 : W5.cell? ⟨N, 5, none⟩ = some (.int .i64 cburst) := cell_at HK.out 5
    have qK6 : W5.cell? ⟨N, 6, none⟩ = some (.int .i64 shaper) := cell_at HK.out 6
    have qK7 : W5.cell? ⟨N, 7, none⟩ = some (.int .i64 epoch) := cell_at HK.out 7
    have qK8 : W5.cell? ⟨N, 8, none⟩ = some (.int .i64 clease) := cell_at HK.out 8
    have qK9 : W5.cell? ⟨N, 9, none⟩ = some (.int .i64 csize) := cell_at HK.out 9
    have qK10 : W5.cell? ⟨N, 10, none⟩ = some (.int .i64 spent) := cell_at HK.out 10
    have qK11 : W5.cell? ⟨N, 11, none⟩ = some (.bool closed) := cell_at HK.out 11
    have qK12 : W5.cell? ⟨N, 12, none⟩ = some (.slice lsa lsn lsc) := cell_at HK.out 12
    have qKz : ∀ j, W5.frozen? ⟨N, j, none⟩ = false := fun j => free_at HK.out j
    have qKl : N < W5.heap.size := HK.out.lt
    have qA0 : W5.cell? ⟨(N + 1), 0, none⟩ = some (.int .i64 0) := cell_at HA.out 0
    have qA1 : W5.cell? ⟨(N + 1), 1, none⟩ = some (.int .i64 0) := cell_at HA.out 1
    have qA2 : W5.cell? ⟨(N + 1), 2, none⟩ = some (.int .i64 0) := cell_at HA.out 2
    have qA3 : W5.cell? ⟨(N + 1), 3, none⟩ = some (.int .i64 0) := cell_at HA.out 3
    have qA4 : W5.cell? ⟨(N + 1), 4, none⟩ = some (.int .i64 0) := cell_at HA.out 4
    have qAz : ∀ j, W5.frozen? ⟨(N + 1), j, none⟩ = false := fun j => free_at HA.out j
    have qAl : (N + 1) < W5.heap.size := HA.out.lt
    go_wp2_with fail
    clear qK0 qK1 qK2 qK3 qK4 qK5 qK6 qK7 qK8 qK9 qK10 qK11 qK12 qKz qKl qA0 qA1 qA2 qA3 qA4 qAz qAl
    obtain ⟨LS, hLS⟩ : ∃ L : List Value, L = [.int .i64 2, .int .i64 0, .int .i64 0, .int .i64 0, .int .i64 0] := ⟨_, rfl⟩
    obtain ⟨W6, hWS⟩ : ∃ WS, WS = W5.setCells (N + 1) 0 LS := ⟨_, rfl⟩
    have hch := hWS
    rw [hLS] at hch
    simp only [World.setCells, Nat.zero_add, Nat.reduceAdd] at hch
    rw [← hch]
    clear hch
    have hkS := stC_blk HA.out LS (by rw [hLS]; rfl)
    have hfS := stC_fr (N + 1) LS 0 W5
    rw [← hWS] at hkS hfS
    rw [hLS] at hkS
    replace HB := Lib.hid (HB.out.trans (hfS.below HB.out.size (by have := HLON.out; simp; try omega)))
    replace HT := Lib.hid (HT0.out.below HB.out)
    replace HK := Lib.hid (show Blk W6 N #[.int .i8 kind, .int .i64 client, .int .i64 number, .int .i64 tenant, .int .i64 crate, .int .i64 cburst, .int .i64 shaper, .int .i64 epoch, .int .i64 clease, .int .i64 csize, .int .i64 spent, .bool closed, .slice lsa lsn lsc] 51 from (hfS.block _ HK.out.lt (by simp; try omega)).trans HK.out)
    replace HFM := Lib.hid (Nat.le_trans HFM.out hfS.size)
    replace HO := Lib.hid (HO.out.fr hfS (by have := FHO.out; omega))
    replace HA := Lib.hid (show Blk W6 (N + 1) #[.int .i64 2, .int .i64 0, .int .i64 0, .int .i64 0, .int .i64 0] 54 from hkS)
    clear hWS hLS hkS hfS
    have qA0 : W6.cell? ⟨(N + 1), 0, none⟩ = some (.int .i64 2) := cell_at HA.out 0
    have qA1 : W6.cell? ⟨(N + 1), 1, none⟩ = some (.int .i64 0) := cell_at HA.out 1
    have qA2 : W6.cell? ⟨(N + 1), 2, none⟩ = some (.int .i64 0) := cell_at HA.out 2
    have qA3 : W6.cell? ⟨(N + 1), 3, none⟩ = some (.int .i64 0) := cell_at HA.out 3
    have qA4 : W6.cell? ⟨(N + 1), 4, none⟩ = some (.int .i64 0) := cell_at HA.out 4
    have qAz : ∀ j, W6.frozen? ⟨(N + 1), j, none⟩ = false := fun j => free_at HA.out j
    have qAl : (N + 1) < W6.heap.size := HA.out.lt
    exact bodyPost_ret (v := .tuple #[.slice a1 n1 c1, .agg #[.int .i64 2, .int .i64 0, .int .i64 0, .int .i64 0, .int .i64 0]]) (by simp [results, Try.results20, go_sem, qA0, qA1, qA2, qA3, qA4]) rfl ⟨_, rfl, ⟨_, HO.out.le HLOM.out⟩, HB.out⟩
  have HOK : Hid ((tblB 0 t && cmdB kind tenant) = true) := Lib.hid (by rw [← HB1.out, ← HB2.out]; rfl)
  have htn : 1 ≤ tenant ∧ tenant ≤ 16 := by have := HB2.out; simp only [cmdB, tenB] at this; have h2 := this.symm; simp only [Bool.and_eq_true, decide_eq_true_eq] at h2; exact h2.2
  have HTN := Lib.hid htn
  have hk3 : 1 ≤ kind ∧ kind ≤ 3 := by have := HB2.out; simp only [cmdB, tenB] at this; have h2 := this.symm; simp only [Bool.and_eq_true, decide_eq_true_eq] at h2; exact h2.1
  have HK3 := Lib.hid hk3
  have HBS := Lib.hid (fun v W (h : FcV W v t) => bsearch_any v t tenant W h HB1.out.symm htn)
  obtain ⟨P, hP⟩ : ∃ P, P = (t.filter (fun f => decide (f.tenant < tenant))).length := ⟨_, rfl⟩
  obtain ⟨T, hT⟩ : ∃ T, T = t.find? (fun f => decide (f.tenant = tenant)) := ⟨_, rfl⟩
  rw [← hP, ← hT] at HBS
  have HP := Lib.hid hP
  have HTT := Lib.hid hT
  clear hP hT htn hk3
  have qK0 : W5.cell? ⟨N, 0, none⟩ = some (.int .i8 kind) := cell_at HK.out 0
  have qK1 : W5.cell? ⟨N, 1, none⟩ = some (.int .i64 client) := cell_at HK.out 1
  have qK2 : W5.cell? ⟨N, 2, none⟩ = some (.int .i64 number) := cell_at HK.out 2
  have qK3 : W5.cell? ⟨N, 3, none⟩ = some (.int .i64 tenant) := cell_at HK.out 3
  have qK4 : W5.cell? ⟨N, 4, none⟩ = some (.int .i64 crate) := cell_at HK.out 4
  have qK5 : W5.cell? ⟨N, 5, none⟩ = some (.int .i64 cburst) := cell_at HK.out 5
  have qK6 : W5.cell? ⟨N, 6, none⟩ = some (.int .i64 shaper) := cell_at HK.out 6
  have qK7 : W5.cell? ⟨N, 7, none⟩ = some (.int .i64 epoch) := cell_at HK.out 7
  have qK8 : W5.cell? ⟨N, 8, none⟩ = some (.int .i64 clease) := cell_at HK.out 8
  have qK9 : W5.cell? ⟨N, 9, none⟩ = some (.int .i64 csize) := cell_at HK.out 9
  have qK10 : W5.cell? ⟨N, 10, none⟩ = some (.int .i64 spent) := cell_at HK.out 10
  have qK11 : W5.cell? ⟨N, 11, none⟩ = some (.bool closed) := cell_at HK.out 11
  have qK12 : W5.cell? ⟨N, 12, none⟩ = some (.slice lsa lsn lsc) := cell_at HK.out 12
  have qKz : ∀ j, W5.frozen? ⟨N, j, none⟩ = false := fun j => free_at HK.out j
  have qKl : N < W5.heap.size := HK.out.lt
  go_wp2_with fail
  go_at_call 43
  go_fit (HBS.out _ _ HO.out.v)
  rintro e W6 ⟨rfl, hB⟩
  clear qK0 qK1 qK2 qK3 qK4 qK5 qK6 qK7 qK8 qK9 qK10 qK11 qK12 qKz qKl
  replace HB := Lib.hid (HB.out.trans (hB.mono HB.out.size))
  replace HT := Lib.hid (HT0.out.below HB.out)
  replace HK := Lib.hid (HK.out.step hB)
  replace HA := Lib.hid (HA.out.step hB)
  replace HFM := Lib.hid (Nat.le_trans HFM.out hB.size)
  replace HO := Lib.hid (HO.out.step hB)
  clear hB
  by_cases k1 : kind = 1
  · skip
    have HOK1 : Hid ((tblB 0 t && cmdB 1 tenant) = true) := Lib.hid (by rw [← k1]; exact HOK.out)
    have HD1 : Hid (D = doF t 1 tenant crate cburst) := Lib.hid (by rw [← k1]; exact HD.out)
    have d1 : (kind == 1) = true := by simpa using k1
    clear k1
    have qK0 : W6.cell? ⟨N, 0, none⟩ = some (.int .i8 kind) := cell_at HK.out 0
    have qK1 : W6.cell? ⟨N, 1, none⟩ = some (.int .i64 client) := cell_at HK.out 1
    have qK2 : W6.cell? ⟨N, 2, none⟩ = some (.int .i64 number) := cell_at HK.out 2
    have qK3 : W6.cell? ⟨N, 3, none⟩ = some (.int .i64 tenant) := cell_at HK.out 3
    have qK4 : W6.cell? ⟨N, 4, none⟩ = some (.int .i64 crate) := cell_at HK.out 4
    have qK5 : W6.cell? ⟨N, 5, none⟩ = some (.int .i64 cburst) := cell_at HK.out 5
    have qK6 : W6.cell? ⟨N, 6, none⟩ = some (.int .i64 shaper) := cell_at HK.out 6
    have qK7 : W6.cell? ⟨N, 7, none⟩ = some (.int .i64 epoch) := cell_at HK.out 7
    have qK8 : W6.cell? ⟨N, 8, none⟩ = some (.int .i64 clease) := cell_at HK.out 8
    have qK9 : W6.cell? ⟨N, 9, none⟩ = some (.int .i64 csize) := cell_at HK.out 9
    have qK10 : W6.cell? ⟨N, 10, none⟩ = some (.int .i64 spent) := cell_at HK.out 10
    have qK11 : W6.cell? ⟨N, 11, none⟩ = some (.bool closed) := cell_at HK.out 11
    have qK12 : W6.cell? ⟨N, 12, none⟩ = some (.slice lsa lsn lsc) := cell_at HK.out 12
    have qKz : ∀ j, W6.frozen? ⟨N, j, none⟩ = false := fun j => free_at HK.out j
    have qKl : N < W6.heap.size := HK.out.lt
    go_wp2_with fail
    go_at_call 45
    go_fit (HPM.out _)
    rintro e w' ⟨rfl, rfl⟩
    cases B3
    · skip
      rw [do_rate HOK1.out HB3.out.symm] at HD1
      have hD := HD1.out
      subst hD
      clear qK0 qK1 qK2 qK3 qK4 qK5 qK6 qK7 qK8 qK9 qK10 qK11 qK12 qKz qKl
      have qK0 : W6.cell? ⟨N, 0, none⟩ = some (.int .i8 kind) := cell_at HK.out 0
      have qK1 : W6.cell? ⟨N, 1, none⟩ = some (.int .i64 client) := cell_at HK.out 1
      have qK2 : W6.cell? ⟨N, 2, none⟩ = some (.int .i64 number) := cell_at HK.out 2
      have qK3 : W6.cell? ⟨N, 3, none⟩ = some (.int .i64 tenant) := cell_at HK.out 3
      have qK4 : W6.cell? ⟨N, 4, none⟩ = some (.int .i64 crate) := cell_at HK.out 4
      have qK5 : W6.cell? ⟨N, 5, none⟩ = some (.int .i64 cburst) := cell_at HK.out 5
      have qK6 : W6.cell? ⟨N, 6, none⟩ = some (.int .i64 shaper) := cell_at HK.out 6
      have qK7 : W6.cell? ⟨N, 7, none⟩ = some (.int .i64 epoch) := cell_at HK.out 7
      have qK8 : W6.cell? ⟨N, 8, none⟩ = some (.int .i64 clease) := cell_at HK.out 8
      have qK9 : W6.cell? ⟨N, 9, none⟩ = some (.int .i64 csize) := cell_at HK.out 9
      have qK10 : W6.cell? ⟨N, 10, none⟩ = some (.int .i64 spent) := cell_at HK.out 10
      have qK11 : W6.cell? ⟨N, 11, none⟩ = some (.bool closed) := cell_at HK.out 11
      have qK12 : W6.cell? ⟨N, 12, none⟩ = some (.slice lsa lsn lsc) := cell_at HK.out 12
      have qKz : ∀ j, W6.frozen? ⟨N, j, none⟩ = false := fun j => free_at HK.out j
      have qKl : N < W6.heap.size := HK.out.lt
      have qA0 : W6.cell? ⟨(N + 1), 0, none⟩ = some (.int .i64 0) := cell_at HA.out 0
      have qA1 : W6.cell? ⟨(N + 1), 1, none⟩ = some (.int .i64 0) := cell_at HA.out 1
      have qA2 : W6.cell? ⟨(N + 1), 2, none⟩ = some (.int .i64 0) := cell_at HA.out 2
      have qA3 : W6.cell? ⟨(N + 1), 3, none⟩ = some (.int .i64 0) := cell_at HA.out 3
      have qA4 : W6.cell? ⟨(N + 1), 4, none⟩ = some (.int .i64 0) := cell_at HA.out 4
      have qAz : ∀ j, W6.frozen? ⟨(N + 1), j, none⟩ = false := fun j => free_at HA.out j
      have qAl : (N + 1) < W6.heap.size := HA.out.lt
      go_wp2_with fail
      clear qK0 qK1 qK2 qK3 qK4 qK5 qK6 qK7 qK8 qK9 qK10 qK11 qK12 qKz qKl qA0 qA1 qA2 qA3 qA4 qAz qAl
      obtain ⟨LS, hLS⟩ : ∃ L : List Value, L = [.int .i64 160, .int .i64 0, .int .i64 0, .int .i64 0, .int .i64 0] := ⟨_, rfl⟩
      obtain ⟨W7, hWS⟩ : ∃ WS, WS = W6.setCells (N + 1) 0 LS := ⟨_, rfl⟩
      have hch := hWS
      rw [hLS] at hch
      simp only [World.setCells, Nat.zero_add, Nat.reduceAdd] at hch
      rw [← hch]
      clear hch
      have hkS := stC_blk HA.out LS (by rw [hLS]; rfl)
      have hfS := stC_fr (N + 1) LS 0 W6
      rw [← hWS] at hkS hfS
      rw [hLS] at hkS
      replace HB := Lib.hid (HB.out.trans (hfS.below HB.out.size (by have := HLON.out; simp; try omega)))
      replace HT := Lib.hid (HT0.out.below HB.out)
      replace HK := Lib.hid (show Blk W7 N #[.int .i8 kind, .int .i64 client, .int .i64 number, .int .i64 tenant, .int .i64 crate, .int .i64 cburst, .int .i64 shaper, .int .i64 epoch, .int .i64 clease, .int .i64 csize, .int .i64 spent, .bool closed, .slice lsa lsn lsc] 51 from (hfS.block _ HK.out.lt (by simp; try omega)).trans HK.out)
      replace HFM := Lib.hid (Nat.le_trans HFM.out hfS.size)
      replace HO := Lib.hid (HO.out.fr hfS (by have := FHO.out; omega))
      replace HA := Lib.hid (show Blk W7 (N + 1) #[.int .i64 160, .int .i64 0, .int .i64 0, .int .i64 0, .int .i64 0] 54 from hkS)
      clear hWS hLS hkS hfS
      have qA0 : W7.cell? ⟨(N + 1), 0, none⟩ = some (.int .i64 160) := cell_at HA.out 0
      have qA1 : W7.cell? ⟨(N + 1), 1, none⟩ = some (.int .i64 0) := cell_at HA.out 1
      have qA2 : W7.cell? ⟨(N + 1), 2, none⟩ = some (.int .i64 0) := cell_at HA.out 2
      have qA3 : W7.cell? ⟨(N + 1), 3, none⟩ = some (.int .i64 0) := cell_at HA.out 3
      have qA4 : W7.cell? ⟨(N + 1), 4, none⟩ = some (.int .i64 0) := cell_at HA.out 4
      have qAz : ∀ j, W7.frozen? ⟨(N + 1), j, none⟩ = false := fun j => free_at HA.out j
      have qAl : (N + 1) < W7.heap.size := HA.out.lt
      exact bodyPost_ret (v := .tuple #[.slice a1 n1 c1, .agg #[.int .i64 160, .int .i64 0, .int .i64 0, .int .i64 0, .int .i64 0]]) (by simp [results, Try.results20, go_sem, qA0, qA1, qA2, qA3, qA4]) rfl ⟨_, rfl, ⟨_, HO.out.le HLOM.out⟩, HB.out⟩
    rw [do_put HOK1.out HB3.out.symm] at HD1
    have hD := HD1.out
    subst hD
    cases T
    clear HD
    · skip
      have HI := Lib.hid (tbl_ins HB1.out.symm HTT.out.symm)
      rw [← HP.out] at HI
      have hpl : P ≤ t.length := by rw [HP.out]; exact List.length_filter_le _ _
      have HPL := Lib.hid hpl
      clear hpl
      clear qK0 qK1 qK2 qK3 qK4 qK5 qK6 qK7 qK8 qK9 qK10 qK11 qK12 qKz qKl
      have qK0 : W6.cell? ⟨N, 0, none⟩ = some (.int .i8 kind) := cell_at HK.out 0
      have qK1 : W6.cell? ⟨N, 1, none⟩ = some (.int .i64 client) := cell_at HK.out 1
      have qK2 : W6.cell? ⟨N, 2, none⟩ = some (.int .i64 number) := cell_at HK.out 2
      have qK3 : W6.cell? ⟨N, 3, none⟩ = some (.int .i64 tenant) := cell_at HK.out 3
      have qK4 : W6.cell? ⟨N, 4, none⟩ = some (.int .i64 crate) := cell_at HK.out 4
      have qK5 : W6.cell? ⟨N, 5, none⟩ = some (.int .i64 cburst) := cell_at HK.out 5
      have qK6 : W6.cell? ⟨N, 6, none⟩ = some (.int .i64 shaper) := cell_at HK.out 6
      have qK7 : W6.cell? ⟨N, 7, none⟩ = some (.int .i64 epoch) := cell_at HK.out 7
      have qK8 : W6.cell? ⟨N, 8, none⟩ = some (.int .i64 clease) := cell_at HK.out 8
      have qK9 : W6.cell? ⟨N, 9, none⟩ = some (.int .i64 csize) := cell_at HK.out 9
      have qK10 : W6.cell? ⟨N, 10, none⟩ = some (.int .i64 spent) := cell_at HK.out 10
      have qK11 : W6.cell? ⟨N, 11, none⟩ = some (.bool closed) := cell_at HK.out 11
      have qK12 : W6.cell? ⟨N, 12, none⟩ = some (.slice lsa lsn lsc) := cell_at HK.out 12
      have qKz : ∀ j, W6.frozen? ⟨N, j, none⟩ = false := fun j => free_at HK.out j
      have qKl : N < W6.heap.size := HK.out.lt
      go_wp2_with fail
      go_at_call 46
      clear qK0 qK1 qK2 qK3 qK4 qK5 qK6 qK7 qK8 qK9 qK10 qK11 qK12 qKz qKl
      obtain ⟨Q, hQ⟩ : ∃ n0, n0 = W6.heap.size := ⟨_, rfl⟩
      have HXQHK : Hid (N < Q) := Lib.hid (by rw [hQ]; exact HK.out.lt)
      have HXQHA : Hid ((N + 1) < Q) := Lib.hid (by rw [hQ]; exact HA.out.lt)
      have HUQHO : Hid (∀ g, ob1 = some g → g < Q) := Lib.hid (fun g e => by rw [hQ]; first | (subst e; exact HO.out.1.lt) | (obtain rfl := Option.some.inj e; exact HO.out.1.lt))
      have HLOQ : Hid (w.heap.size ≤ Q) := Lib.hid (by have := HB.out.size; omega)
      obtain ⟨W7, hA0⟩ : ∃ W0, W0 = W6.alloc (.cells #[.int .i64 0, .int .i64 tenant, .int .i64 0, .int .i64 0] 87) := ⟨_, rfl⟩
      have hB : Below W6.heap.size W6 W7 := by rw [hA0]; exact (Below.refl _ _).alloc (Nat.le_refl _) _
      have hS0 : W7.heap.size = Q + 1 := by rw [hA0]; simp [← hQ]
      have HQ := Lib.hid (show Blk W7 Q #[.int .i64 0, .int .i64 tenant, .int .i64 0, .int .i64 0] 87 by rw [hA0, hQ]; exact blk_new _ _ _)
      replace HB := Lib.hid (HB.out.trans (hB.mono HB.out.size))
      replace HK := Lib.hid (HK.out.step hB)
      replace HA := Lib.hid (HA.out.step hB)
      replace HFM := Lib.hid (Nat.le_trans HFM.out hB.size)
      replace HO := Lib.hid (HO.out.step hB)
      clear hB
      have HSQ := Lib.hid hS0
      rw [← hQ, ← hA0]
      clear hA0 hQ hS0
      go_fit (insert_any ⟨0, tenant, 0, 0⟩ M Q P _ ob1 t _ HO.out HQ.out (fun g e => by have := HUQHO.out g e; omega) HPL.out HFM.out (by have := HL.out; omega) (by have := HTN.out; exact ⟨by simp, by simp; omega, by simp, by simp⟩))
      rintro e W8 ⟨v2, ob2, rfl, hv2, hBM⟩
      replace HB := Lib.hid (HB.out.trans (hBM.mono (by have hq := HLOM.out; omega)))
      replace HK := Lib.hid (HK.out.stepM hBM (by have hq := HXMHK.out; omega))
      replace HA := Lib.hid (HA.out.stepM hBM (by have hq := HXMHA.out; omega))
      replace HFM := Lib.hid (Nat.le_trans HFM.out hBM.size)
      obtain ⟨x, hxx⟩ : ∃ y : FcE, y = ⟨0, tenant, 0, 0⟩ := ⟨_, rfl⟩
      rw [← hxx] at hv2
      have HX : Hid ((t.take P ++ [x] ++ t.drop P)[P]? = some x) := Lib.hid (by rw [List.append_assoc, List.getElem?_append_right (by rw [List.length_take]; omega), List.length_take, Nat.min_eq_left HPL.out, Nat.sub_self]; rfl)
      have HLF : Hid ((t.take P ++ [x] ++ t.drop P).set P ⟨x.tick, x.tenant, crate, cburst⟩ = t.filter (fun f => decide (f.tenant < tenant)) ++ [⟨0, tenant, crate, cburst⟩] ++ t.filter (fun f => decide (tenant < f.tenant))) := Lib.hid (by rw [← HI.out, hxx, List.append_assoc, List.set_append_right _ _ (by rw [List.length_take]; omega), List.length_take, Nat.min_eq_left HPL.out, Nat.sub_self, List.append_assoc]; rfl)
      clear hxx
      obtain ⟨RF, hRF⟩ : ∃ y, y = t.filter (fun f => decide (f.tenant < tenant)) ++ [⟨0, tenant, crate, cburst⟩] ++ t.filter (fun f => decide (tenant < f.tenant)) := ⟨_, rfl⟩
      rw [← hRF] at HLF
      have HRF := Lib.hid hRF
      clear hRF
      obtain ⟨LN, hLN⟩ : ∃ y, y = t.take P ++ [x] ++ t.drop P := ⟨_, rfl⟩
      rw [← hLN] at hv2 HX HLF
      clear hLN
      have hP9 : P < LN.length := (List.getElem?_eq_some_iff.1 HX.out).1
      rcases hv2.1.cases with ⟨h1, h2, h3, h4⟩ | ⟨g, cap, cur, hob, hve, h4, h5, h6, h7, h8⟩
      · exact absurd hP9 (by omega)
      subst hob
      first | subst hve | (injection hve with e1 e2 e3; subst e1; subst e2; subst e3)
      have HO := Lib.hid hv2
      have hMg := hv2.2.2 g rfl
      have HMG := Lib.hid hMg
      obtain ⟨g', o', x', ea, gl, hx, y0, y1, y2, y3⟩ := hv2.v.at P hP9
      obtain ⟨rfl, rfl⟩ : g' = g ∧ o' = 0 := by injection ea with e; injection e with e1 e2; exact ⟨e1.symm, e2.symm⟩
      obtain rfl : x' = x := by have h9 := HX.out; rw [hx] at h9; exact Option.some.inj h9
      simp only [Nat.zero_add] at y0 y1 y2 y3
      have fz : ∀ j, W8.frozen? ⟨g', j, none⟩ = false := free_at h4
      obtain ⟨n2, hn2⟩ : ∃ y, y = LN.length := ⟨_, rfl⟩
      rw [← hn2] at HO h5 hP9
      rw [← hn2]
      have Hn2 := Lib.hid hn2
      have hP2 : ((P : Int) < (n2 : Int)) = True := eq_true (by omega)
      have hP3 : (P < n2) = True := eq_true hP9
      unfold maxLen at h6
      clear ea hx h4 h7 h8 hn2 hv2 hMg
      have qK0 : W8.cell? ⟨N, 0, none⟩ = some (.int .i8 kind) := cell_at HK.out 0
      have qK1 : W8.cell? ⟨N, 1, none⟩ = some (.int .i64 client) := cell_at HK.out 1
      have qK2 : W8.cell? ⟨N, 2, none⟩ = some (.int .i64 number) := cell_at HK.out 2
      have qK3 : W8.cell? ⟨N, 3, none⟩ = some (.int .i64 tenant) := cell_at HK.out 3
      have qK4 : W8.cell? ⟨N, 4, none⟩ = some (.int .i64 crate) := cell_at HK.out 4
      have qK5 : W8.cell? ⟨N, 5, none⟩ = some (.int .i64 cburst) := cell_at HK.out 5
      have qK6 : W8.cell? ⟨N, 6, none⟩ = some (.int .i64 shaper) := cell_at HK.out 6
      have qK7 : W8.cell? ⟨N, 7, none⟩ = some (.int .i64 epoch) := cell_at HK.out 7
      have qK8 : W8.cell? ⟨N, 8, none⟩ = some (.int .i64 clease) := cell_at HK.out 8
      have qK9 : W8.cell? ⟨N, 9, none⟩ = some (.int .i64 csize) := cell_at HK.out 9
      have qK10 : W8.cell? ⟨N, 10, none⟩ = some (.int .i64 spent) := cell_at HK.out 10
      have qK11 : W8.cell? ⟨N, 11, none⟩ = some (.bool closed) := cell_at HK.out 11
      have qK12 : W8.cell? ⟨N, 12, none⟩ = some (.slice lsa lsn lsc) := cell_at HK.out 12
      have qKz : ∀ j, W8.frozen? ⟨N, j, none⟩ = false := fun j => free_at HK.out j
      have qKl : N < W8.heap.size := HK.out.lt
      go_wp2_with fail
      go_region
      clear qK0 qK1 qK2 qK3 qK4 qK5 qK6 qK7 qK8 qK9 qK10 qK11 qK12 qKz qKl y0 y1 y2 y3 fz gl
      obtain ⟨W9, hWS⟩ : ∃ X, X = (W8.setCell ⟨g', P * 4 + 2, none⟩ (.int .i64 crate)).setCell ⟨g', P * 4 + 3, none⟩ (.int .i64 cburst) := ⟨_, rfl⟩
      rw [← hWS]
      have hf : Fr [g'] W8 W9 := by rw [hWS]; exact ((Fr.refl _ _).setCell _ (.inl (by simp)) _).setCell _ (.inl (by simp)) _
      have hrb : -9223372036854775808 ≤ crate ∧ crate ≤ 9223372036854775807 ∧ -9223372036854775808 ≤ cburst ∧ cburst ≤ 9223372036854775807 := by have := HB3.out.symm; simp only [mayR, Bool.and_eq_true, decide_eq_true_eq] at this; omega
      have ho := HO.out.setRB HX.out crate cburst (by omega) (by omega)
      rw [← hWS] at ho
      have hgw : w.heap.size ≤ g' := by have := HMG.out; have := HLOM.out; omega
      replace HB := Lib.hid (HB.out.trans (hf.below HB.out.size (by simp; exact hgw)))
      replace HFM := Lib.hid (Nat.le_trans HFM.out hf.size)
      replace HK := Lib.hid (show Blk W9 N #[.int .i8 kind, .int .i64 client, .int .i64 number, .int .i64 tenant, .int .i64 crate, .int .i64 cburst, .int .i64 shaper, .int .i64 epoch, .int .i64 clease, .int .i64 csize, .int .i64 spent, .bool closed, .slice lsa lsn lsc] 51 from (hf.block N HK.out.lt (by have h8 := HXMHK.out; have h9 := HMG.out; simp; omega)).trans HK.out)
      replace HA := Lib.hid (show Blk W9 (N + 1) #[.int .i64 0, .int .i64 0, .int .i64 0, .int .i64 0, .int .i64 0] 54 from (hf.block (N + 1) HA.out.lt (by have h8 := HXMHA.out; have h9 := HMG.out; simp; omega)).trans HA.out)
      replace HO := Lib.hid ho
      clear hWS hf hrb ho hgw
      obtain ⟨W10, hWd⟩ : ∃ X, X = W9.drew := ⟨_, rfl⟩
      rw [← hWd]
      have hB : Below W9.heap.size W9 W10 := by rw [hWd]; exact (Below.refl _ _).drew
      clear hWd
      replace HB := Lib.hid (HB.out.trans (hB.mono HB.out.size))
      replace HK := Lib.hid (HK.out.step hB)
      replace HA := Lib.hid (HA.out.step hB)
      replace HFM := Lib.hid (Nat.le_trans HFM.out hB.size)
      replace HO := Lib.hid (HO.out.step hB)
      clear hB
      have hX2 : (LN.set P ⟨x'.tick, x'.tenant, crate, cburst⟩)[P]? = some ⟨x'.tick, x'.tenant, crate, cburst⟩ := by rw [List.getElem?_set_self (by rw [← Hn2.out]; exact hP9)]
      replace HX := Lib.hid hX2
      clear hX2
      have qK0 : W10.cell? ⟨N, 0, none⟩ = some (.int .i8 kind) := cell_at HK.out 0
      have qK1 : W10.cell? ⟨N, 1, none⟩ = some (.int .i64 client) := cell_at HK.out 1
      have qK2 : W10.cell? ⟨N, 2, none⟩ = some (.int .i64 number) := cell_at HK.out 2
      have qK3 : W10.cell? ⟨N, 3, none⟩ = some (.int .i64 tenant) := cell_at HK.out 3
      have qK4 : W10.cell? ⟨N, 4, none⟩ = some (.int .i64 crate) := cell_at HK.out 4
      have qK5 : W10.cell? ⟨N, 5, none⟩ = some (.int .i64 cburst) := cell_at HK.out 5
      have qK6 : W10.cell? ⟨N, 6, none⟩ = some (.int .i64 shaper) := cell_at HK.out 6
      have qK7 : W10.cell? ⟨N, 7, none⟩ = some (.int .i64 epoch) := cell_at HK.out 7
      have qK8 : W10.cell? ⟨N, 8, none⟩ = some (.int .i64 clease) := cell_at HK.out 8
      have qK9 : W10.cell? ⟨N, 9, none⟩ = some (.int .i64 csize) := cell_at HK.out 9
      have qK10 : W10.cell? ⟨N, 10, none⟩ = some (.int .i64 spent) := cell_at HK.out 10
      have qK11 : W10.cell? ⟨N, 11, none⟩ = some (.bool closed) := cell_at HK.out 11
      have qK12 : W10.cell? ⟨N, 12, none⟩ = some (.slice lsa lsn lsc) := cell_at HK.out 12
      have qKz : ∀ j, W10.frozen? ⟨N, j, none⟩ = false := fun j => free_at HK.out j
      have qKl : N < W10.heap.size := HK.out.lt
      have qA0 : W10.cell? ⟨(N + 1), 0, none⟩ = some (.int .i64 0) := cell_at HA.out 0
      have qA1 : W10.cell? ⟨(N + 1), 1, none⟩ = some (.int .i64 0) := cell_at HA.out 1
      have qA2 : W10.cell? ⟨(N + 1), 2, none⟩ = some (.int .i64 0) := cell_at HA.out 2
      have qA3 : W10.cell? ⟨(N + 1), 3, none⟩ = some (.int .i64 0) := cell_at HA.out 3
      have qA4 : W10.cell? ⟨(N + 1), 4, none⟩ = some (.int .i64 0) := cell_at HA.out 4
      have qAz : ∀ j, W10.frozen? ⟨(N + 1), j, none⟩ = false := fun j => free_at HA.out j
      have qAl : (N + 1) < W10.heap.size := HA.out.lt
      obtain ⟨g2, o2, x2, ea, gl2, hx, y0, y1, y2, y3⟩ := HO.out.v.at P hP9
      obtain ⟨rfl, rfl⟩ : g2 = g' ∧ o2 = 0 := by injection ea with e; injection e with e1 e2; exact ⟨e1.symm, e2.symm⟩
      obtain rfl : x2 = ⟨x'.tick, x'.tenant, crate, cburst⟩ := by have h9 := HX.out; rw [hx] at h9; exact Option.some.inj h9
      simp only [Nat.zero_add] at y0 y1 y2 y3
      clear ea hx
      go_wp2_with fail
      go_region
      clear qK0 qK1 qK2 qK3 qK4 qK5 qK6 qK7 qK8 qK9 qK10 qK11 qK12 qKz qKl qA0 qA1 qA2 qA3 qA4 qAz qAl y0 y1 y2 y3
      obtain ⟨LS, hLS⟩ : ∃ L : List Value, L = [.int .i64 0, .int .i64 crate, .int .i64 cburst, .int .i64 0, .int .i64 0] := ⟨_, rfl⟩
      obtain ⟨W11, hWS⟩ : ∃ WS, WS = W10.setCells (N + 1) 0 LS := ⟨_, rfl⟩
      have hch := hWS
      rw [hLS] at hch
      simp only [World.setCells, Nat.zero_add, Nat.reduceAdd] at hch
      rw [← hch]
      clear hch
      have hkS := stC_blk HA.out LS (by rw [hLS]; rfl)
      have hfS := stC_fr (N + 1) LS 0 W10
      rw [← hWS] at hkS hfS
      rw [hLS] at hkS
      replace HB := Lib.hid (HB.out.trans (hfS.below HB.out.size (by have := HLON.out; simp; try omega)))
      replace HK := Lib.hid (show Blk W11 N #[.int .i8 kind, .int .i64 client, .int .i64 number, .int .i64 tenant, .int .i64 crate, .int .i64 cburst, .int .i64 shaper, .int .i64 epoch, .int .i64 clease, .int .i64 csize, .int .i64 spent, .bool closed, .slice lsa lsn lsc] 51 from (hfS.block _ HK.out.lt (by have hx0 := HXQHK.out; have hx1 := HXQHA.out; simp; try omega)).trans HK.out)
      replace HFM := Lib.hid (Nat.le_trans HFM.out hfS.size)
      replace HO := Lib.hid (HO.out.fr hfS (by have := FHO.out; omega))
      replace HA := Lib.hid (show Blk W11 (N + 1) #[.int .i64 0, .int .i64 crate, .int .i64 cburst, .int .i64 0, .int .i64 0] 54 from hkS)
      clear hWS hLS hkS hfS
      obtain ⟨W12, hWd⟩ : ∃ X, X = W11.drew := ⟨_, rfl⟩
      rw [← hWd]
      have hB : Below W11.heap.size W11 W12 := by rw [hWd]; exact (Below.refl _ _).drew
      clear hWd
      replace HB := Lib.hid (HB.out.trans (hB.mono HB.out.size))
      replace HK := Lib.hid (HK.out.step hB)
      replace HA := Lib.hid (HA.out.step hB)
      replace HFM := Lib.hid (Nat.le_trans HFM.out hB.size)
      replace HO := Lib.hid (HO.out.step hB)
      clear hB
      have qA0 : W12.cell? ⟨(N + 1), 0, none⟩ = some (.int .i64 0) := cell_at HA.out 0
      have qA1 : W12.cell? ⟨(N + 1), 1, none⟩ = some (.int .i64 crate) := cell_at HA.out 1
      have qA2 : W12.cell? ⟨(N + 1), 2, none⟩ = some (.int .i64 cburst) := cell_at HA.out 2
      have qA3 : W12.cell? ⟨(N + 1), 3, none⟩ = some (.int .i64 0) := cell_at HA.out 3
      have qA4 : W12.cell? ⟨(N + 1), 4, none⟩ = some (.int .i64 0) := cell_at HA.out 4
      have qAz : ∀ j, W12.frozen? ⟨(N + 1), j, none⟩ = false := fun j => free_at HA.out j
      have qAl : (N + 1) < W12.heap.size := HA.out.lt
      go_wp2_with fail
      exact bodyPost_ret (v := .tuple #[.slice (some ⟨g2, 0, none⟩) n2 cap, .agg #[.int .i64 0, .int .i64 crate, .int .i64 cburst, .int .i64 0, .int .i64 0]]) (by simp [results, Try.results20, go_sem, qA0, qA1, qA2, qA3, qA4]) rfl ⟨_, rfl, ⟨some g2, by have h9 := HO.out.le HLOM.out; rw [HLF.out, HRF.out] at h9; simpa using h9⟩, HB.out⟩
    · skip
      rename_i x
      obtain ⟨ta1, ta2, _, ta4⟩ := tbl_at HB1.out.symm HTT.out.symm
      rw [← HP.out] at ta1 ta4
      have hx0 := (tblB_mem HB1.out.symm x (List.mem_of_getElem? ta1)).2.1
      have HX : Hid (t[P]? = some x) := Lib.hid ta1
      have HLF : Hid (t.set P ⟨x.tick, x.tenant, crate, cburst⟩ = t.filter (fun f => decide (f.tenant < tenant)) ++ [⟨0, tenant, crate, cburst⟩] ++ t.filter (fun f => decide (tenant < f.tenant))) := Lib.hid (by rw [hx0, ta2]; exact ta4 _ _)
      have hv2 := HO.out
      clear ta1 ta2 ta4 hx0
      clear HO
      obtain ⟨RF, hRF⟩ : ∃ y, y = t.filter (fun f => decide (f.tenant < tenant)) ++ [⟨0, tenant, crate, cburst⟩] ++ t.filter (fun f => decide (tenant < f.tenant)) := ⟨_, rfl⟩
      rw [← hRF] at HLF
      have HRF := Lib.hid hRF
      clear hRF
      obtain ⟨LN, hLN⟩ : ∃ y, y = t := ⟨_, rfl⟩
      rw [← hLN] at hv2 HX HLF
      clear hLN
      have hP9 : P < LN.length := (List.getElem?_eq_some_iff.1 HX.out).1
      rcases hv2.1.cases with ⟨h1, h2, h3, h4⟩ | ⟨g, cap, cur, hob, hve, h4, h5, h6, h7, h8⟩
      · exact absurd hP9 (by omega)
      subst hob
      first | subst hve | (injection hve with e1 e2 e3; subst e1; subst e2; subst e3)
      have HO := Lib.hid hv2
      have hMg := hv2.2.2 g rfl
      have HMG := Lib.hid hMg
      obtain ⟨g', o', x', ea, gl, hx, y0, y1, y2, y3⟩ := hv2.v.at P hP9
      obtain ⟨rfl, rfl⟩ : g' = g ∧ o' = 0 := by injection ea with e; injection e with e1 e2; exact ⟨e1.symm, e2.symm⟩
      obtain rfl : x' = x := by have h9 := HX.out; rw [hx] at h9; exact Option.some.inj h9
      simp only [Nat.zero_add] at y0 y1 y2 y3
      have fz : ∀ j, W6.frozen? ⟨g', j, none⟩ = false := free_at h4
      obtain ⟨n2, hn2⟩ : ∃ y, y = LN.length := ⟨_, rfl⟩
      rw [← hn2] at HO h5 hP9
      rw [← hn2]
      have Hn2 := Lib.hid hn2
      have hP2 : ((P : Int) < (n2 : Int)) = True := eq_true (by omega)
      have hP3 : (P < n2) = True := eq_true hP9
      unfold maxLen at h6
      clear ea hx h4 h7 h8 hn2 hv2 hMg
      clear qK0 qK1 qK2 qK3 qK4 qK5 qK6 qK7 qK8 qK9 qK10 qK11 qK12 qKz qKl
      have qK0 : W6.cell? ⟨N, 0, none⟩ = some (.int .i8 kind) := cell_at HK.out 0
      have qK1 : W6.cell? ⟨N, 1, none⟩ = some (.int .i64 client) := cell_at HK.out 1
      have qK2 : W6.cell? ⟨N, 2, none⟩ = some (.int .i64 number) := cell_at HK.out 2
      have qK3 : W6.cell? ⟨N, 3, none⟩ = some (.int .i64 tenant) := cell_at HK.out 3
      have qK4 : W6.cell? ⟨N, 4, none⟩ = some (.int .i64 crate) := cell_at HK.out 4
      have qK5 : W6.cell? ⟨N, 5, none⟩ = some (.int .i64 cburst) := cell_at HK.out 5
      have qK6 : W6.cell? ⟨N, 6, none⟩ = some (.int .i64 shaper) := cell_at HK.out 6
      have qK7 : W6.cell? ⟨N, 7, none⟩ = some (.int .i64 epoch) := cell_at HK.out 7
      have qK8 : W6.cell? ⟨N, 8, none⟩ = some (.int .i64 clease) := cell_at HK.out 8
      have qK9 : W6.cell? ⟨N, 9, none⟩ = some (.int .i64 csize) := cell_at HK.out 9
      have qK10 : W6.cell? ⟨N, 10, none⟩ = some (.int .i64 spent) := cell_at HK.out 10
      have qK11 : W6.cell? ⟨N, 11, none⟩ = some (.bool closed) := cell_at HK.out 11
      have qK12 : W6.cell? ⟨N, 12, none⟩ = some (.slice lsa lsn lsc) := cell_at HK.out 12
      have qKz : ∀ j, W6.frozen? ⟨N, j, none⟩ = false := fun j => free_at HK.out j
      have qKl : N < W6.heap.size := HK.out.lt
      go_wp2_with fail
      go_region
      clear qK0 qK1 qK2 qK3 qK4 qK5 qK6 qK7 qK8 qK9 qK10 qK11 qK12 qKz qKl y0 y1 y2 y3 fz gl
      obtain ⟨W7, hWS⟩ : ∃ X, X = (W6.setCell ⟨g', P * 4 + 2, none⟩ (.int .i64 crate)).setCell ⟨g', P * 4 + 3, none⟩ (.int .i64 cburst) := ⟨_, rfl⟩
      rw [← hWS]
      have hf : Fr [g'] W6 W7 := by rw [hWS]; exact ((Fr.refl _ _).setCell _ (.inl (by simp)) _).setCell _ (.inl (by simp)) _
      have hrb : -9223372036854775808 ≤ crate ∧ crate ≤ 9223372036854775807 ∧ -9223372036854775808 ≤ cburst ∧ cburst ≤ 9223372036854775807 := by have := HB3.out.symm; simp only [mayR, Bool.and_eq_true, decide_eq_true_eq] at this; omega
      have ho := HO.out.setRB HX.out crate cburst (by omega) (by omega)
      rw [← hWS] at ho
      have hgw : w.heap.size ≤ g' := by have := HMG.out; have := HLOM.out; omega
      replace HB := Lib.hid (HB.out.trans (hf.below HB.out.size (by simp; exact hgw)))
      replace HFM := Lib.hid (Nat.le_trans HFM.out hf.size)
      replace HK := Lib.hid (show Blk W7 N #[.int .i8 kind, .int .i64 client, .int .i64 number, .int .i64 tenant, .int .i64 crate, .int .i64 cburst, .int .i64 shaper, .int .i64 epoch, .int .i64 clease, .int .i64 csize, .int .i64 spent, .bool closed, .slice lsa lsn lsc] 51 from (hf.block N HK.out.lt (by have h8 := HXMHK.out; have h9 := HMG.out; simp; omega)).trans HK.out)
      replace HA := Lib.hid (show Blk W7 (N + 1) #[.int .i64 0, .int .i64 0, .int .i64 0, .int .i64 0, .int .i64 0] 54 from (hf.block (N + 1) HA.out.lt (by have h8 := HXMHA.out; have h9 := HMG.out; simp; omega)).trans HA.out)
      replace HO := Lib.hid ho
      clear hWS hf hrb ho hgw
      obtain ⟨W8, hWd⟩ : ∃ X, X = W7.drew := ⟨_, rfl⟩
      rw [← hWd]
      have hB : Below W7.heap.size W7 W8 := by rw [hWd]; exact (Below.refl _ _).drew
      clear hWd
      replace HB := Lib.hid (HB.out.trans (hB.mono HB.out.size))
      replace HK := Lib.hid (HK.out.step hB)
      replace HA := Lib.hid (HA.out.step hB)
      replace HFM := Lib.hid (Nat.le_trans HFM.out hB.size)
      replace HO := Lib.hid (HO.out.step hB)
      clear hB
      have hX2 : (LN.set P ⟨x'.tick, x'.tenant, crate, cburst⟩)[P]? = some ⟨x'.tick, x'.tenant, crate, cburst⟩ := by rw [List.getElem?_set_self (by rw [← Hn2.out]; exact hP9)]
      replace HX := Lib.hid hX2
      clear hX2
      have qK0 : W8.cell? ⟨N, 0, none⟩ = some (.int .i8 kind) := cell_at HK.out 0
      have qK1 : W8.cell? ⟨N, 1, none⟩ = some (.int .i64 client) := cell_at HK.out 1
      have qK2 : W8.cell? ⟨N, 2, none⟩ = some (.int .i64 number) := cell_at HK.out 2
      have qK3 : W8.cell? ⟨N, 3, none⟩ = some (.int .i64 tenant) := cell_at HK.out 3
      have qK4 : W8.cell? ⟨N, 4, none⟩ = some (.int .i64 crate) := cell_at HK.out 4
      have qK5 : W8.cell? ⟨N, 5, none⟩ = some (.int .i64 cburst) := cell_at HK.out 5
      have qK6 : W8.cell? ⟨N, 6, none⟩ = some (.int .i64 shaper) := cell_at HK.out 6
      have qK7 : W8.cell? ⟨N, 7, none⟩ = some (.int .i64 epoch) := cell_at HK.out 7
      have qK8 : W8.cell? ⟨N, 8, none⟩ = some (.int .i64 clease) := cell_at HK.out 8
      have qK9 : W8.cell? ⟨N, 9, none⟩ = some (.int .i64 csize) := cell_at HK.out 9
      have qK10 : W8.cell? ⟨N, 10, none⟩ = some (.int .i64 spent) := cell_at HK.out 10
      have qK11 : W8.cell? ⟨N, 11, none⟩ = some (.bool closed) := cell_at HK.out 11
      have qK12 : W8.cell? ⟨N, 12, none⟩ = some (.slice lsa lsn lsc) := cell_at HK.out 12
      have qKz : ∀ j, W8.frozen? ⟨N, j, none⟩ = false := fun j => free_at HK.out j
      have qKl : N < W8.heap.size := HK.out.lt
      have qA0 : W8.cell? ⟨(N + 1), 0, none⟩ = some (.int .i64 0) := cell_at HA.out 0
      have qA1 : W8.cell? ⟨(N + 1), 1, none⟩ = some (.int .i64 0) := cell_at HA.out 1
      have qA2 : W8.cell? ⟨(N + 1), 2, none⟩ = some (.int .i64 0) := cell_at HA.out 2
      have qA3 : W8.cell? ⟨(N + 1), 3, none⟩ = some (.int .i64 0) := cell_at HA.out 3
      have qA4 : W8.cell? ⟨(N + 1), 4, none⟩ = some (.int .i64 0) := cell_at HA.out 4
      have qAz : ∀ j, W8.frozen? ⟨(N + 1), j, none⟩ = false := fun j => free_at HA.out j
      have qAl : (N + 1) < W8.heap.size := HA.out.lt
      obtain ⟨g2, o2, x2, ea, gl2, hx, y0, y1, y2, y3⟩ := HO.out.v.at P hP9
      obtain ⟨rfl, rfl⟩ : g2 = g' ∧ o2 = 0 := by injection ea with e; injection e with e1 e2; exact ⟨e1.symm, e2.symm⟩
      obtain rfl : x2 = ⟨x'.tick, x'.tenant, crate, cburst⟩ := by have h9 := HX.out; rw [hx] at h9; exact Option.some.inj h9
      simp only [Nat.zero_add] at y0 y1 y2 y3
      clear ea hx
      go_wp2_with fail
      go_region
      clear qK0 qK1 qK2 qK3 qK4 qK5 qK6 qK7 qK8 qK9 qK10 qK11 qK12 qKz qKl qA0 qA1 qA2 qA3 qA4 qAz qAl y0 y1 y2 y3
      obtain ⟨LS, hLS⟩ : ∃ L : List Value, L = [.int .i64 0, .int .i64 crate, .int .i64 cburst, .int .i64 0, .int .i64 0] := ⟨_, rfl⟩
      obtain ⟨W9, hWS⟩ : ∃ WS, WS = W8.setCells (N + 1) 0 LS := ⟨_, rfl⟩
      have hch := hWS
      rw [hLS] at hch
      simp only [World.setCells, Nat.zero_add, Nat.reduceAdd] at hch
      rw [← hch]
      clear hch
      have hkS := stC_blk HA.out LS (by rw [hLS]; rfl)
      have hfS := stC_fr (N + 1) LS 0 W8
      rw [← hWS] at hkS hfS
      rw [hLS] at hkS
      replace HB := Lib.hid (HB.out.trans (hfS.below HB.out.size (by have := HLON.out; simp; try omega)))
      replace HK := Lib.hid (show Blk W9 N #[.int .i8 kind, .int .i64 client, .int .i64 number, .int .i64 tenant, .int .i64 crate, .int .i64 cburst, .int .i64 shaper, .int .i64 epoch, .int .i64 clease, .int .i64 csize, .int .i64 spent, .bool closed, .slice lsa lsn lsc] 51 from (hfS.block _ HK.out.lt (by simp; try omega)).trans HK.out)
      replace HFM := Lib.hid (Nat.le_trans HFM.out hfS.size)
      replace HO := Lib.hid (HO.out.fr hfS (by have := FHO.out; omega))
      replace HA := Lib.hid (show Blk W9 (N + 1) #[.int .i64 0, .int .i64 crate, .int .i64 cburst, .int .i64 0, .int .i64 0] 54 from hkS)
      clear hWS hLS hkS hfS
      obtain ⟨W10, hWd⟩ : ∃ X, X = W9.drew := ⟨_, rfl⟩
      rw [← hWd]
      have hB : Below W9.heap.size W9 W10 := by rw [hWd]; exact (Below.refl _ _).drew
      clear hWd
      replace HB := Lib.hid (HB.out.trans (hB.mono HB.out.size))
      replace HK := Lib.hid (HK.out.step hB)
      replace HA := Lib.hid (HA.out.step hB)
      replace HFM := Lib.hid (Nat.le_trans HFM.out hB.size)
      replace HO := Lib.hid (HO.out.step hB)
      clear hB
      have qA0 : W10.cell? ⟨(N + 1), 0, none⟩ = some (.int .i64 0) := cell_at HA.out 0
      have qA1 : W10.cell? ⟨(N + 1), 1, none⟩ = some (.int .i64 crate) := cell_at HA.out 1
      have qA2 : W10.cell? ⟨(N + 1), 2, none⟩ = some (.int .i64 cburst) := cell_at HA.out 2
      have qA3 : W10.cell? ⟨(N + 1), 3, none⟩ = some (.int .i64 0) := cell_at HA.out 3
      have qA4 : W10.cell? ⟨(N + 1), 4, none⟩ = some (.int .i64 0) := cell_at HA.out 4
      have qAz : ∀ j, W10.frozen? ⟨(N + 1), j, none⟩ = false := fun j => free_at HA.out j
      have qAl : (N + 1) < W10.heap.size := HA.out.lt
      go_wp2_with fail
      exact bodyPost_ret (v := .tuple #[.slice (some ⟨g2, 0, none⟩) n2 c1, .agg #[.int .i64 0, .int .i64 crate, .int .i64 cburst, .int .i64 0, .int .i64 0]]) (by simp [results, Try.results20, go_sem, qA0, qA1, qA2, qA3, qA4]) rfl ⟨_, rfl, ⟨some g2, by have h9 := HO.out.le HLOM.out; rw [HLF.out, HRF.out] at h9; simpa using h9⟩, HB.out⟩
  have K1 := Lib.hid k1
  have d1 : (kind == 1) = false := by simpa using k1
  clear k1
  cases T
  · skip
    rw [do_none HOK.out K1.out HTT.out.symm] at HD
    have hD := HD.out
    subst hD
    have qK0 : W6.cell? ⟨N, 0, none⟩ = some (.int .i8 kind) := cell_at HK.out 0
    have qK1 : W6.cell? ⟨N, 1, none⟩ = some (.int .i64 client) := cell_at HK.out 1
    have qK2 : W6.cell? ⟨N, 2, none⟩ = some (.int .i64 number) := cell_at HK.out 2
    have qK3 : W6.cell? ⟨N, 3, none⟩ = some (.int .i64 tenant) := cell_at HK.out 3
    have qK4 : W6.cell? ⟨N, 4, none⟩ = some (.int .i64 crate) := cell_at HK.out 4
    have qK5 : W6.cell? ⟨N, 5, none⟩ = some (.int .i64 cburst) := cell_at HK.out 5
    have qK6 : W6.cell? ⟨N, 6, none⟩ = some (.int .i64 shaper) := cell_at HK.out 6
    have qK7 : W6.cell? ⟨N, 7, none⟩ = some (.int .i64 epoch) := cell_at HK.out 7
    have qK8 : W6.cell? ⟨N, 8, none⟩ = some (.int .i64 clease) := cell_at HK.out 8
    have qK9 : W6.cell? ⟨N, 9, none⟩ = some (.int .i64 csize) := cell_at HK.out 9
    have qK10 : W6.cell? ⟨N, 10, none⟩ = some (.int .i64 spent) := cell_at HK.out 10
    have qK11 : W6.cell? ⟨N, 11, none⟩ = some (.bool closed) := cell_at HK.out 11
    have qK12 : W6.cell? ⟨N, 12, none⟩ = some (.slice lsa lsn lsc) := cell_at HK.out 12
    have qKz : ∀ j, W6.frozen? ⟨N, j, none⟩ = false := fun j => free_at HK.out j
    have qKl : N < W6.heap.size := HK.out.lt
    have qA0 : W6.cell? ⟨(N + 1), 0, none⟩ = some (.int .i64 0) := cell_at HA.out 0
    have qA1 : W6.cell? ⟨(N + 1), 1, none⟩ = some (.int .i64 0) := cell_at HA.out 1
    have qA2 : W6.cell? ⟨(N + 1), 2, none⟩ = some (.int .i64 0) := cell_at HA.out 2
    have qA3 : W6.cell? ⟨(N + 1), 3, none⟩ = some (.int .i64 0) := cell_at HA.out 3
    have qA4 : W6.cell? ⟨(N + 1), 4, none⟩ = some (.int .i64 0) := cell_at HA.out 4
    have qAz : ∀ j, W6.frozen? ⟨(N + 1), j, none⟩ = false := fun j => free_at HA.out j
    have qAl : (N + 1) < W6.heap.size := HA.out.lt
    go_wp2_with fail
    clear qK0 qK1 qK2 qK3 qK4 qK5 qK6 qK7 qK8 qK9 qK10 qK11 qK12 qKz qKl qA0 qA1 qA2 qA3 qA4 qAz qAl
    obtain ⟨LS, hLS⟩ : ∃ L : List Value, L = [.int .i64 161, .int .i64 0, .int .i64 0, .int .i64 0, .int .i64 0] := ⟨_, rfl⟩
    obtain ⟨W7, hWS⟩ : ∃ WS, WS = W6.setCells (N + 1) 0 LS := ⟨_, rfl⟩
    have hch := hWS
    rw [hLS] at hch
    simp only [World.setCells, Nat.zero_add, Nat.reduceAdd] at hch
    rw [← hch]
    clear hch
    have hkS := stC_blk HA.out LS (by rw [hLS]; rfl)
    have hfS := stC_fr (N + 1) LS 0 W6
    rw [← hWS] at hkS hfS
    rw [hLS] at hkS
    replace HB := Lib.hid (HB.out.trans (hfS.below HB.out.size (by have := HLON.out; simp; try omega)))
    replace HT := Lib.hid (HT0.out.below HB.out)
    replace HK := Lib.hid (show Blk W7 N #[.int .i8 kind, .int .i64 client, .int .i64 number, .int .i64 tenant, .int .i64 crate, .int .i64 cburst, .int .i64 shaper, .int .i64 epoch, .int .i64 clease, .int .i64 csize, .int .i64 spent, .bool closed, .slice lsa lsn lsc] 51 from (hfS.block _ HK.out.lt (by simp; try omega)).trans HK.out)
    replace HFM := Lib.hid (Nat.le_trans HFM.out hfS.size)
    replace HO := Lib.hid (HO.out.fr hfS (by have := FHO.out; omega))
    replace HA := Lib.hid (show Blk W7 (N + 1) #[.int .i64 161, .int .i64 0, .int .i64 0, .int .i64 0, .int .i64 0] 54 from hkS)
    clear hWS hLS hkS hfS
    have qA0 : W7.cell? ⟨(N + 1), 0, none⟩ = some (.int .i64 161) := cell_at HA.out 0
    have qA1 : W7.cell? ⟨(N + 1), 1, none⟩ = some (.int .i64 0) := cell_at HA.out 1
    have qA2 : W7.cell? ⟨(N + 1), 2, none⟩ = some (.int .i64 0) := cell_at HA.out 2
    have qA3 : W7.cell? ⟨(N + 1), 3, none⟩ = some (.int .i64 0) := cell_at HA.out 3
    have qA4 : W7.cell? ⟨(N + 1), 4, none⟩ = some (.int .i64 0) := cell_at HA.out 4
    have qAz : ∀ j, W7.frozen? ⟨(N + 1), j, none⟩ = false := fun j => free_at HA.out j
    have qAl : (N + 1) < W7.heap.size := HA.out.lt
    exact bodyPost_ret (v := .tuple #[.slice a1 n1 c1, .agg #[.int .i64 161, .int .i64 0, .int .i64 0, .int .i64 0, .int .i64 0]]) (by simp [results, Try.results20, go_sem, qA0, qA1, qA2, qA3, qA4]) rfl ⟨_, rfl, ⟨_, HO.out.le HLOM.out⟩, HB.out⟩
  rename_i x
  by_cases k2 : kind = 2
  · skip
    have HOK2 : Hid ((tblB 0 t && cmdB 2 tenant) = true) := Lib.hid (by rw [← k2]; exact HOK.out)
    have HD2 : Hid (D = doF t 2 tenant crate cburst) := Lib.hid (by rw [← k2]; exact HD.out)
    have d3 : (kind == 3) = false := by rw [k2]; rfl
    clear k2 HD
    rw [do_get HOK2.out HTT.out.symm] at HD2
    have hD := HD2.out
    subst hD
    obtain ⟨ta1, ta2, _, ta4⟩ := tbl_at HB1.out.symm HTT.out.symm
    rw [← HP.out] at ta1
    have HX := Lib.hid ta1
    have hP9 : P < t.length := (List.getElem?_eq_some_iff.1 ta1).1
    rw [← Hn1.out] at hP9
    obtain ⟨g', o', x', ea, gl, hx, y0, y1, y2, y3⟩ := HO.out.v.at P hP9
    obtain rfl : x' = x := by rw [hx] at ta1; exact Option.some.inj ta1
    subst ea
    have hP2 : ((P : Int) < (n1 : Int)) = True := eq_true (by omega)
    have hP3 : (P < n1) = True := eq_true hP9
    clear ta1 ta2 ta4 hx
    have qK0 : W6.cell? ⟨N, 0, none⟩ = some (.int .i8 kind) := cell_at HK.out 0
    have qK1 : W6.cell? ⟨N, 1, none⟩ = some (.int .i64 client) := cell_at HK.out 1
    have qK2 : W6.cell? ⟨N, 2, none⟩ = some (.int .i64 number) := cell_at HK.out 2
    have qK3 : W6.cell? ⟨N, 3, none⟩ = some (.int .i64 tenant) := cell_at HK.out 3
    have qK4 : W6.cell? ⟨N, 4, none⟩ = some (.int .i64 crate) := cell_at HK.out 4
    have qK5 : W6.cell? ⟨N, 5, none⟩ = some (.int .i64 cburst) := cell_at HK.out 5
    have qK6 : W6.cell? ⟨N, 6, none⟩ = some (.int .i64 shaper) := cell_at HK.out 6
    have qK7 : W6.cell? ⟨N, 7, none⟩ = some (.int .i64 epoch) := cell_at HK.out 7
    have qK8 : W6.cell? ⟨N, 8, none⟩ = some (.int .i64 clease) := cell_at HK.out 8
    have qK9 : W6.cell? ⟨N, 9, none⟩ = some (.int .i64 csize) := cell_at HK.out 9
    have qK10 : W6.cell? ⟨N, 10, none⟩ = some (.int .i64 spent) := cell_at HK.out 10
    have qK11 : W6.cell? ⟨N, 11, none⟩ = some (.bool closed) := cell_at HK.out 11
    have qK12 : W6.cell? ⟨N, 12, none⟩ = some (.slice lsa lsn lsc) := cell_at HK.out 12
    have qKz : ∀ j, W6.frozen? ⟨N, j, none⟩ = false := fun j => free_at HK.out j
    have qKl : N < W6.heap.size := HK.out.lt
    have qA0 : W6.cell? ⟨(N + 1), 0, none⟩ = some (.int .i64 0) := cell_at HA.out 0
    have qA1 : W6.cell? ⟨(N + 1), 1, none⟩ = some (.int .i64 0) := cell_at HA.out 1
    have qA2 : W6.cell? ⟨(N + 1), 2, none⟩ = some (.int .i64 0) := cell_at HA.out 2
    have qA3 : W6.cell? ⟨(N + 1), 3, none⟩ = some (.int .i64 0) := cell_at HA.out 3
    have qA4 : W6.cell? ⟨(N + 1), 4, none⟩ = some (.int .i64 0) := cell_at HA.out 4
    have qAz : ∀ j, W6.frozen? ⟨(N + 1), j, none⟩ = false := fun j => free_at HA.out j
    have qAl : (N + 1) < W6.heap.size := HA.out.lt
    go_wp2_with fail
    go_region
    clear qK0 qK1 qK2 qK3 qK4 qK5 qK6 qK7 qK8 qK9 qK10 qK11 qK12 qKz qKl qA0 qA1 qA2 qA3 qA4 qAz qAl y0 y1 y2 y3
    obtain ⟨LS, hLS⟩ : ∃ L : List Value, L = [.int .i64 0, .int .i64 x'.rate, .int .i64 x'.burst, .int .i64 0, .int .i64 0] := ⟨_, rfl⟩
    obtain ⟨W7, hWS⟩ : ∃ WS, WS = W6.setCells (N + 1) 0 LS := ⟨_, rfl⟩
    have hch := hWS
    rw [hLS] at hch
    simp only [World.setCells, Nat.zero_add, Nat.reduceAdd] at hch
    rw [← hch]
    clear hch
    have hkS := stC_blk HA.out LS (by rw [hLS]; rfl)
    have hfS := stC_fr (N + 1) LS 0 W6
    rw [← hWS] at hkS hfS
    rw [hLS] at hkS
    replace HB := Lib.hid (HB.out.trans (hfS.below HB.out.size (by have := HLON.out; simp; try omega)))
    replace HK := Lib.hid (show Blk W7 N #[.int .i8 kind, .int .i64 client, .int .i64 number, .int .i64 tenant, .int .i64 crate, .int .i64 cburst, .int .i64 shaper, .int .i64 epoch, .int .i64 clease, .int .i64 csize, .int .i64 spent, .bool closed, .slice lsa lsn lsc] 51 from (hfS.block _ HK.out.lt (by simp; try omega)).trans HK.out)
    replace HFM := Lib.hid (Nat.le_trans HFM.out hfS.size)
    replace HO := Lib.hid (HO.out.fr hfS (by have := FHO.out; omega))
    replace HA := Lib.hid (show Blk W7 (N + 1) #[.int .i64 0, .int .i64 x'.rate, .int .i64 x'.burst, .int .i64 0, .int .i64 0] 54 from hkS)
    clear hWS hLS hkS hfS
    obtain ⟨W8, hWd⟩ : ∃ X, X = W7.drew := ⟨_, rfl⟩
    rw [← hWd]
    have hB : Below W7.heap.size W7 W8 := by rw [hWd]; exact (Below.refl _ _).drew
    clear hWd
    replace HB := Lib.hid (HB.out.trans (hB.mono HB.out.size))
    replace HK := Lib.hid (HK.out.step hB)
    replace HA := Lib.hid (HA.out.step hB)
    replace HFM := Lib.hid (Nat.le_trans HFM.out hB.size)
    replace HO := Lib.hid (HO.out.step hB)
    clear hB
    have qA0 : W8.cell? ⟨(N + 1), 0, none⟩ = some (.int .i64 0) := cell_at HA.out 0
    have qA1 : W8.cell? ⟨(N + 1), 1, none⟩ = some (.int .i64 x'.rate) := cell_at HA.out 1
    have qA2 : W8.cell? ⟨(N + 1), 2, none⟩ = some (.int .i64 x'.burst) := cell_at HA.out 2
    have qA3 : W8.cell? ⟨(N + 1), 3, none⟩ = some (.int .i64 0) := cell_at HA.out 3
    have qA4 : W8.cell? ⟨(N + 1), 4, none⟩ = some (.int .i64 0) := cell_at HA.out 4
    have qAz : ∀ j, W8.frozen? ⟨(N + 1), j, none⟩ = false := fun j => free_at HA.out j
    have qAl : (N + 1) < W8.heap.size := HA.out.lt
    go_wp2_with fail
    exact bodyPost_ret (v := .tuple #[.slice (some ⟨g', o', none⟩) n1 c1, .agg #[.int .i64 0, .int .i64 x'.rate, .int .i64 x'.burst, .int .i64 0, .int .i64 0]]) (by simp [results, Try.results20, go_sem, qA0, qA1, qA2, qA3, qA4]) rfl ⟨_, rfl, ⟨_, HO.out.le HLOM.out⟩, HB.out⟩
  · skip
    have d3 : (kind == 3) = true := by have := HK3.out; have := K1.out; simp; omega
    rw [do_del HOK.out K1.out k2 HTT.out.symm] at HD
    have hD := HD.out
    subst hD
    obtain ⟨ta1, ta2, ta3, ta4⟩ := tbl_at HB1.out.symm HTT.out.symm
    rw [← HP.out] at ta1 ta3
    have HE := Lib.hid ta3
    have hP9 : P < t.length := (List.getElem?_eq_some_iff.1 ta1).1
    clear ta1 ta2 ta3 ta4 k2 HT
    have ho := HO.out
    rcases ho.1.cases with ⟨h1, h2, h3, h4⟩ | ⟨g, cap, cur, hob, hve, h4, h5, h6, h7, h8⟩
    · exact absurd hP9 (by omega)
    subst hob
    injection hve with e1 e2 e3
    subst e1
    subst e2
    subst e3
    obtain ⟨m, hm⟩ : ∃ m, t.length = P + m + 1 := ⟨t.length - P - 1, by omega⟩
    have hrow := ho.1
    rw [hm] at hrow
    have hMg := ho.2.2 g rfl
    have HDL := Lib.hid (fun W (h : Row W (.slice (some ⟨g, 0, none⟩) (P + m + 1) c1) (some g) 87 4 (P + m + 1) (llFc t)) => deleteF_any g c1 P m t W h hm)
    have ww1 : IntKind.i64.wrap ((P : Int) + 1) = (P : Int) + 1 := IntWalk.i64_in _ (by have := HL.out; omega)
    have HMG := Lib.hid hMg
    have HM := Lib.hid hm
    have HROW := Lib.hid hrow
    have HOKO := Lib.hid ho.2.1
    rw [hm]
    clear h4 h5 h6 h7 h8 hm hMg hrow ho HO hP9
    have qK0 : W6.cell? ⟨N, 0, none⟩ = some (.int .i8 kind) := cell_at HK.out 0
    have qK1 : W6.cell? ⟨N, 1, none⟩ = some (.int .i64 client) := cell_at HK.out 1
    have qK2 : W6.cell? ⟨N, 2, none⟩ = some (.int .i64 number) := cell_at HK.out 2
    have qK3 : W6.cell? ⟨N, 3, none⟩ = some (.int .i64 tenant) := cell_at HK.out 3
    have qK4 : W6.cell? ⟨N, 4, none⟩ = some (.int .i64 crate) := cell_at HK.out 4
    have qK5 : W6.cell? ⟨N, 5, none⟩ = some (.int .i64 cburst) := cell_at HK.out 5
    have qK6 : W6.cell? ⟨N, 6, none⟩ = some (.int .i64 shaper) := cell_at HK.out 6
    have qK7 : W6.cell? ⟨N, 7, none⟩ = some (.int .i64 epoch) := cell_at HK.out 7
    have qK8 : W6.cell? ⟨N, 8, none⟩ = some (.int .i64 clease) := cell_at HK.out 8
    have qK9 : W6.cell? ⟨N, 9, none⟩ = some (.int .i64 csize) := cell_at HK.out 9
    have qK10 : W6.cell? ⟨N, 10, none⟩ = some (.int .i64 spent) := cell_at HK.out 10
    have qK11 : W6.cell? ⟨N, 11, none⟩ = some (.bool closed) := cell_at HK.out 11
    have qK12 : W6.cell? ⟨N, 12, none⟩ = some (.slice lsa lsn lsc) := cell_at HK.out 12
    have qKz : ∀ j, W6.frozen? ⟨N, j, none⟩ = false := fun j => free_at HK.out j
    have qKl : N < W6.heap.size := HK.out.lt
    have qA0 : W6.cell? ⟨(N + 1), 0, none⟩ = some (.int .i64 0) := cell_at HA.out 0
    have qA1 : W6.cell? ⟨(N + 1), 1, none⟩ = some (.int .i64 0) := cell_at HA.out 1
    have qA2 : W6.cell? ⟨(N + 1), 2, none⟩ = some (.int .i64 0) := cell_at HA.out 2
    have qA3 : W6.cell? ⟨(N + 1), 3, none⟩ = some (.int .i64 0) := cell_at HA.out 3
    have qA4 : W6.cell? ⟨(N + 1), 4, none⟩ = some (.int .i64 0) := cell_at HA.out 4
    have qAz : ∀ j, W6.frozen? ⟨(N + 1), j, none⟩ = false := fun j => free_at HA.out j
    have qAl : (N + 1) < W6.heap.size := HA.out.lt
    go_wp2_with fail
    go_at_call 47
    go_fit (HDL.out _ HROW.out)
    rintro e W7 ⟨rfl, hrw, hf⟩
    clear qK0 qK1 qK2 qK3 qK4 qK5 qK6 qK7 qK8 qK9 qK10 qK11 qK12 qKz qKl qA0 qA1 qA2 qA3 qA4 qAz qAl
    have hgw : w.heap.size ≤ g := by have := HMG.out; have := HLOM.out; omega
    replace HB := Lib.hid (HB.out.trans (hf.below HB.out.size (by simp; exact hgw)))
    replace HK := Lib.hid (show Blk W7 N #[.int .i8 kind, .int .i64 client, .int .i64 number, .int .i64 tenant, .int .i64 crate, .int .i64 cburst, .int .i64 shaper, .int .i64 epoch, .int .i64 clease, .int .i64 csize, .int .i64 spent, .bool closed, .slice lsa lsn lsc] 51 from (hf.block N HK.out.lt (by have h8 := HXMHK.out; have h9 := HMG.out; simp; omega)).trans HK.out)
    replace HA := Lib.hid (show Blk W7 (N + 1) #[.int .i64 0, .int .i64 0, .int .i64 0, .int .i64 0, .int .i64 0] 54 from (hf.block (N + 1) HA.out.lt (by have h8 := HXMHA.out; have h9 := HMG.out; simp; omega)).trans HA.out)
    have hlen : (t.eraseIdx P).length = P + m := by rw [List.length_eraseIdx_of_lt (by have := HM.out; omega)]; have := HM.out; omega
    have HO : Hid (FcO M W7 (.slice (some ⟨g, 0, none⟩) (P + m) c1) (some g) (t.eraseIdx P)) := Lib.hid ⟨by rw [hlen]; exact hrw, fun x hx => HOKO.out x (List.mem_of_mem_eraseIdx hx), fun q e => by obtain rfl := Option.some.inj e; exact HMG.out⟩
    clear hf hrw hgw hlen HFM
    have qK0 : W7.cell? ⟨N, 0, none⟩ = some (.int .i8 kind) := cell_at HK.out 0
    have qK1 : W7.cell? ⟨N, 1, none⟩ = some (.int .i64 client) := cell_at HK.out 1
    have qK2 : W7.cell? ⟨N, 2, none⟩ = some (.int .i64 number) := cell_at HK.out 2
    have qK3 : W7.cell? ⟨N, 3, none⟩ = some (.int .i64 tenant) := cell_at HK.out 3
    have qK4 : W7.cell? ⟨N, 4, none⟩ = some (.int .i64 crate) := cell_at HK.out 4
    have qK5 : W7.cell? ⟨N, 5, none⟩ = some (.int .i64 cburst) := cell_at HK.out 5
    have qK6 : W7.cell? ⟨N, 6, none⟩ = some (.int .i64 shaper) := cell_at HK.out 6
    have qK7 : W7.cell? ⟨N, 7, none⟩ = some (.int .i64 epoch) := cell_at HK.out 7
    have qK8 : W7.cell? ⟨N, 8, none⟩ = some (.int .i64 clease) := cell_at HK.out 8
    have qK9 : W7.cell? ⟨N, 9, none⟩ = some (.int .i64 csize) := cell_at HK.out 9
    have qK10 : W7.cell? ⟨N, 10, none⟩ = some (.int .i64 spent) := cell_at HK.out 10
    have qK11 : W7.cell? ⟨N, 11, none⟩ = some (.bool closed) := cell_at HK.out 11
    have qK12 : W7.cell? ⟨N, 12, none⟩ = some (.slice lsa lsn lsc) := cell_at HK.out 12
    have qKz : ∀ j, W7.frozen? ⟨N, j, none⟩ = false := fun j => free_at HK.out j
    have qKl : N < W7.heap.size := HK.out.lt
    have qA0 : W7.cell? ⟨(N + 1), 0, none⟩ = some (.int .i64 0) := cell_at HA.out 0
    have qA1 : W7.cell? ⟨(N + 1), 1, none⟩ = some (.int .i64 0) := cell_at HA.out 1
    have qA2 : W7.cell? ⟨(N + 1), 2, none⟩ = some (.int .i64 0) := cell_at HA.out 2
    have qA3 : W7.cell? ⟨(N + 1), 3, none⟩ = some (.int .i64 0) := cell_at HA.out 3
    have qA4 : W7.cell? ⟨(N + 1), 4, none⟩ = some (.int .i64 0) := cell_at HA.out 4
    have qAz : ∀ j, W7.frozen? ⟨(N + 1), j, none⟩ = false := fun j => free_at HA.out j
    have qAl : (N + 1) < W7.heap.size := HA.out.lt
    go_wp2_with fail
    clear qK0 qK1 qK2 qK3 qK4 qK5 qK6 qK7 qK8 qK9 qK10 qK11 qK12 qKz qKl qA0 qA1 qA2 qA3 qA4 qAz qAl
    obtain ⟨LS, hLS⟩ : ∃ L : List Value, L = [.int .i64 0, .int .i64 0, .int .i64 0, .int .i64 0, .int .i64 0] := ⟨_, rfl⟩
    obtain ⟨W8, hWS⟩ : ∃ WS, WS = W7.setCells (N + 1) 0 LS := ⟨_, rfl⟩
    have hch := hWS
    rw [hLS] at hch
    simp only [World.setCells, Nat.zero_add, Nat.reduceAdd] at hch
    rw [← hch]
    clear hch
    have hkS := stC_blk HA.out LS (by rw [hLS]; rfl)
    have hfS := stC_fr (N + 1) LS 0 W7
    rw [← hWS] at hkS hfS
    rw [hLS] at hkS
    replace HB := Lib.hid (HB.out.trans (hfS.below HB.out.size (by have := HLON.out; simp; try omega)))
    replace HK := Lib.hid (show Blk W8 N #[.int .i8 kind, .int .i64 client, .int .i64 number, .int .i64 tenant, .int .i64 crate, .int .i64 cburst, .int .i64 shaper, .int .i64 epoch, .int .i64 clease, .int .i64 csize, .int .i64 spent, .bool closed, .slice lsa lsn lsc] 51 from (hfS.block _ HK.out.lt (by simp; try omega)).trans HK.out)
    replace HO := Lib.hid (HO.out.fr hfS (by have := FHO.out; omega))
    replace HA := Lib.hid (show Blk W8 (N + 1) #[.int .i64 0, .int .i64 0, .int .i64 0, .int .i64 0, .int .i64 0] 54 from hkS)
    clear hWS hLS hkS hfS
    have qA0 : W8.cell? ⟨(N + 1), 0, none⟩ = some (.int .i64 0) := cell_at HA.out 0
    have qA1 : W8.cell? ⟨(N + 1), 1, none⟩ = some (.int .i64 0) := cell_at HA.out 1
    have qA2 : W8.cell? ⟨(N + 1), 2, none⟩ = some (.int .i64 0) := cell_at HA.out 2
    have qA3 : W8.cell? ⟨(N + 1), 3, none⟩ = some (.int .i64 0) := cell_at HA.out 3
    have qA4 : W8.cell? ⟨(N + 1), 4, none⟩ = some (.int .i64 0) := cell_at HA.out 4
    have qAz : ∀ j, W8.frozen? ⟨(N + 1), j, none⟩ = false := fun j => free_at HA.out j
    have qAl : (N + 1) < W8.heap.size := HA.out.lt
    exact bodyPost_ret (v := .tuple #[.slice (some ⟨g, 0, none⟩) (P + m) c1, .agg #[.int .i64 0, .int .i64 0, .int .i64 0, .int .i64 0, .int .i64 0]]) (by simp [results, Try.results20, go_sem, qA0, qA1, qA2, qA3, qA4]) rfl ⟨_, rfl, ⟨some g, by have h9 := HO.out.le HLOM.out; rw [HE.out] at h9; exact h9⟩, HB.out⟩
end Go.Proofs.Ythmjlomlceljkaa
