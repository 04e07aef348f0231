/-
  A command done on a table: the document.
-/
import Derived.Test.YthmjlomlceljkaaHib
import Derived.Test.YthmjlomlceljkaaHi6
import Derived.Test.YthmjlomlceljkaaHic
import Derived.Deep.DeepFit
import Derived.Lib.AppendZeros
import Derived.Deep.RegionLaw
import Derived.Deep.RegionWith
import Derived.Lib.EndianBits
import Derived.Deep.MidRow
namespace Go.Proofs.Ythmjlomlceljkaa
open Go.RowKit
set_option linter.unusedSimpArgs false
set_option linter.unusedVariables false

/-- a row put behind rows of the call's own: which block grew -/
theorem fc_push {W : World} {M b : Nat} {ty : TypeId} {v : Value} {ob : Option Nat} {L : List FcE} {x : FcE} (h : FcO M W v ob L) (hb : Blk W b #[.int .i64 x.tick, .int .i64 x.tenant, .int .i64 x.rate, .int .i64 x.burst] 87) (hx : x.ok) (hM : M ≤ W.heap.size) (hn : L.length ≤ 10000) :
    ∃ v' g' w', (Builtin.append_ #[48, 48] ty #[v, .slice (some ⟨b, 0, none⟩) 1 1]).run Try.prog W = .ok v' w' ∧ FcO M w' v' (some g') (L ++ [x]) ∧ W.grownBy w' ob ∧ (ob = some g' ∨ g' = W.heap.size) ∧ Below M W w' := by
  obtain ⟨r1, r4, r5⟩ := h
  obtain ⟨i0, hi, hz0, hz1, hz2⟩ := info_parts fcZero
  obtain ⟨v', ob', w', hrun, s1, s2, s3⟩ := run_append_row (P := Try.prog) W 48 ty 87 i0 _ 4 32 Try.underlying48 hi hz0 hz1 hz2 rfl (by decide) v ob L.length (llFc L) r1 ⟨b, 0, none⟩ 1 1 (llFc [x]) (by decide) (llFc_len _) (fun j u hu => by
    rw [addr_add, cell_at hb, Nat.zero_add, ← hu, llFc_one]
    show (List.toArray x.cells)[j]? = _
    rw [List.getElem?_toArray]) (llFc_ones _) (by unfold maxLen; omega) (by omega)
  refine ⟨v', ob', w', hrun, ⟨by rw [List.length_append, llFc_append]; exact s1, fun y hy => ?_, fun g e => ?_⟩, s2, s3, (Below.refl M W).grown s2 hM r5⟩
  · rcases List.mem_append.1 hy with h | h
    · exact r4 y h
    · simp at h; subst h; exact hx
  · obtain rfl := Option.some.inj e
    rcases s3 with h | h
    · exact r5 _ h
    · omega
theorem FcO.grown {W w' : World} {M : Nat} {v : Value} {ob oc : Option Nat} {L : List FcE} (h : FcO M W v ob L) (hg : W.grownBy w' oc) (hd : ∀ g, ob = some g → oc ≠ some g) : FcO M w' v ob L :=
  ⟨h.1.congr fun g e => hg.block g (by subst e; exact h.1.lt) (fun e9 => hd g e e9.symm), h.2⟩
def ownF (t : List FcE) (n : Int) : FcE := (t.find? (fun f => decide (f.tenant = n))).getD zFc
theorem own_lt {A : List FcE} {x : FcE} {n : Int} (h : tblB 0 (A ++ [x]) = true) (hx : x.tenant = n) : A.find? (fun f => decide (f.tenant = n)) = none := by
  refine List.find?_eq_none.2 fun y hy => ?_
  obtain ⟨m, hm, rfl⟩ := List.mem_iff_getElem.1 hy
  have := tbl_lt (i := m) (j := A.length) h hm (by simp)
  rw [gFc_of (show (A ++ [x])[m]? = some A[m] by rw [List.getElem?_append_left hm, List.getElem?_eq_getElem hm]), gFc_of (show (A ++ [x])[A.length]? = some x by simp)] at this
  simp
  omega
theorem tbl_prefix : ∀ {A B : List FcE} {last : Int}, tblB last (A ++ B) = true → tblB last A = true
  | [], _, _, _ => rfl
  | x :: A, B, last, h => by
    rw [List.cons_append, tblB_cons, Bool.and_eq_true] at h
    rw [tblB_cons, Bool.and_eq_true]
    exact ⟨h.1, tbl_prefix h.2⟩
set_option maxRecDepth 100000 in
set_option maxHeartbeats 40000000 in
theorem rdo_any (c : CaE) (v : Value) (t : List FcE) (w : World) (h : FcV w v t) (hl : t.length ≤ 200) :
    Calls Try.prog 21 #[v, .agg #[.int .i8 c.kind, .int .i64 c.client, .int .i64 c.number, .int .i64 c.tenant, .int .i64 c.crate, .int .i64 c.cburst, .int .i64 c.shaper, .int .i64 c.epoch, .int .i64 c.clease, .int .i64 c.csize, .int .i64 c.spent, .bool c.closed, .slice c.lsa c.lsn c.lsc]] w fun e w' => ∃ v' ob, e = .returned (.tuple #[v', .agg #[.int .i64 (doC t c).e, .int .i64 (doC t c).r, .int .i64 (doC t c).b, .int .i64 0, .int .i64 0]]) ∧ FcO w.heap.size w' v' ob (doC t c).l ∧ Below w.heap.size w w' := by
  obtain ⟨D, hD⟩ : ∃ D, D = doC t c := ⟨_, rfl⟩
  rw [← hD]
  have HD := Lib.hid hD
  clear hD
  unfold doC at HD
  obtain ⟨kind, client, number, tenant, crate, cburst, shaper, epoch, clease, csize, spent, closed, lsa, lsn, lsc, fr, til, ae, rate, burst, lease, size⟩ := c
  simp only at HD ⊢
  have HMA := Lib.hid (fun W => rcmd_any ⟨kind, client, number, tenant, crate, cburst, shaper, epoch, clease, csize, spent, closed, lsa, lsn, lsc, 0, 0, 0, 0, 0, 0, 0⟩ W)
  simp only at HMA
  have HPM := Lib.hid (fun W => rmay_any crate cburst W)
  obtain ⟨a, n, cap, rfl, HN, m1, m2⟩ := h.sh
  have HT := Lib.hid h
  have HT0 := Lib.hid h
  obtain ⟨B1, hB1⟩ : ∃ B1, B1 = tblB 0 t := ⟨_, rfl⟩
  obtain ⟨B2, hB2⟩ : ∃ B2, B2 = cmdB kind tenant := ⟨_, rfl⟩
  obtain ⟨B3, hB3⟩ : ∃ B3, B3 = mayR crate cburst := ⟨_, rfl⟩
  rw [← hB2] at HMA
  rw [← hB3] at HPM
  have HMB := Lib.hid (fun W (h : FcV W (.slice a n cap) t) => rtable_any _ t W h)
  rw [← hB1] at HMB
  have HCO := Lib.hid (fun W (h : FcV W (.slice a n cap) t) => copied_any _ t W h (by omega))
  have HB1 := Lib.hid hB1
  have HB2 := Lib.hid hB2
  have HB3 := Lib.hid hB3
  have HL := Lib.hid hl
  clear hB1 hB2 hB3 hl h
  have HB : Hid (Below w.heap.size w w) := Lib.hid (Below.refl _ _)
  go_enter Try.func21, Try.ntmps21
  go_upto_region 1 with fail
  obtain ⟨N, hN⟩ : ∃ n0, n0 = w.heap.size := ⟨_, rfl⟩
  have HLON : Hid (w.heap.size ≤ N) := Lib.hid (by have := HB.out.size; omega)
  obtain ⟨W1, hA0⟩ : ∃ W0, W0 = w.alloc (.cells #[.int .i8 kind, .int .i64 client, .int .i64 number, .int .i64 tenant, .int .i64 crate, .int .i64 cburst, .int .i64 shaper, .int .i64 epoch, .int .i64 clease, .int .i64 csize, .int .i64 spent, .bool closed, .slice lsa lsn lsc] 51) := ⟨_, rfl⟩
  have hB : Below w.heap.size w W1 := by rw [hA0]; exact (Below.refl _ _).alloc (Nat.le_refl _) _
  have hS0 : W1.heap.size = N + 1 := by rw [hA0]; simp [← hN]
  have HK := Lib.hid (show Blk W1 N #[.int .i8 kind, .int .i64 client, .int .i64 number, .int .i64 tenant, .int .i64 crate, .int .i64 cburst, .int .i64 shaper, .int .i64 epoch, .int .i64 clease, .int .i64 csize, .int .i64 spent, .bool closed, .slice lsa lsn lsc] 51 by rw [hA0, hN]; exact blk_new _ _ _)
  replace HB := Lib.hid (HB.out.trans (hB.mono HB.out.size))
  replace HT := Lib.hid (HT0.out.below HB.out)
  clear hB
  obtain ⟨W2, hA1⟩ : ∃ W0, W0 = W1.alloc (.cells #[.int .i64 0, .int .i64 0, .int .i64 0, .int .i64 0, .int .i64 0] 54) := ⟨_, rfl⟩
  have hB : Below W1.heap.size W1 W2 := by rw [hA1]; exact (Below.refl _ _).alloc (Nat.le_refl _) _
  have hS1 : W2.heap.size = N + 2 := by rw [hA1]; simp [hS0]
  have HA := Lib.hid (show Blk W2 (N + 1) #[.int .i64 0, .int .i64 0, .int .i64 0, .int .i64 0, .int .i64 0] 54 by rw [hA1, ← hS0]; exact blk_new _ _ _)
  replace HB := Lib.hid (HB.out.trans (hB.mono HB.out.size))
  replace HT := Lib.hid (HT0.out.below HB.out)
  replace HK := Lib.hid (HK.out.step hB)
  clear hB
  have HSN := Lib.hid hS1
  rw [← hN, ← hA0, ← hA1]
  clear hA1 hA0 hN hS0 hS1
  have qK0 : W2.cell? ⟨N, 0, none⟩ = some (.int .i8 kind) := cell_at HK.out 0
  have qK1 : W2.cell? ⟨N, 1, none⟩ = some (.int .i64 client) := cell_at HK.out 1
  have qK2 : W2.cell? ⟨N, 2, none⟩ = some (.int .i64 number) := cell_at HK.out 2
  have qK3 : W2.cell? ⟨N, 3, none⟩ = some (.int .i64 tenant) := cell_at HK.out 3
  have qK4 : W2.cell? ⟨N, 4, none⟩ = some (.int .i64 crate) := cell_at HK.out 4
  have qK5 : W2.cell? ⟨N, 5, none⟩ = some (.int .i64 cburst) := cell_at HK.out 5
  have qK6 : W2.cell? ⟨N, 6, none⟩ = some (.int .i64 shaper) := cell_at HK.out 6
  have qK7 : W2.cell? ⟨N, 7, none⟩ = some (.int .i64 epoch) := cell_at HK.out 7
  have qK8 : W2.cell? ⟨N, 8, none⟩ = some (.int .i64 clease) := cell_at HK.out 8
  have qK9 : W2.cell? ⟨N, 9, none⟩ = some (.int .i64 csize) := cell_at HK.out 9
  have qK10 : W2.cell? ⟨N, 10, none⟩ = some (.int .i64 spent) := cell_at HK.out 10
  have qK11 : W2.cell? ⟨N, 11, none⟩ = some (.bool closed) := cell_at HK.out 11
  have qK12 : W2.cell? ⟨N, 12, none⟩ = some (.slice lsa lsn lsc) := cell_at HK.out 12
  have qKz : ∀ j, W2.frozen? ⟨N, j, none⟩ = false := fun j => free_at HK.out j
  have qKl : N < W2.heap.size := HK.out.lt
  go_wp2_with fail
  go_at_call 48
  go_fit (HMB.out _ HT.out)
  rintro e W3 ⟨rfl, hB⟩
  clear qK0 qK1 qK2 qK3 qK4 qK5 qK6 qK7 qK8 qK9 qK10 qK11 qK12 qKz qKl
  replace HB := Lib.hid (HB.out.trans (hB.mono HB.out.size))
  replace HT := Lib.hid (HT0.out.below HB.out)
  replace HK := Lib.hid (HK.out.step hB)
  replace HA := Lib.hid (HA.out.step hB)
  clear hB
  cases B1
  · skip
    have hd := do_bad (t := t) (k := kind) (n := tenant) (r := crate) (b := cburst) (by rw [← HB1.out]; rfl)
    rw [hd] at HD
    have hD := HD.out
    subst hD
    have HF0 := Lib.hid HB.out.size
    have HX1 := Lib.hid HA.out.lt
    have qK0 : W3.cell? ⟨N, 0, none⟩ = some (.int .i8 kind) := cell_at HK.out 0
    have qK1 : W3.cell? ⟨N, 1, none⟩ = some (.int .i64 client) := cell_at HK.out 1
    have qK2 : W3.cell? ⟨N, 2, none⟩ = some (.int .i64 number) := cell_at HK.out 2
    have qK3 : W3.cell? ⟨N, 3, none⟩ = some (.int .i64 tenant) := cell_at HK.out 3
    have qK4 : W3.cell? ⟨N, 4, none⟩ = some (.int .i64 crate) := cell_at HK.out 4
    have qK5 : W3.cell? ⟨N, 5, none⟩ = some (.int .i64 cburst) := cell_at HK.out 5
    have qK6 : W3.cell? ⟨N, 6, none⟩ = some (.int .i64 shaper) := cell_at HK.out 6
    have qK7 : W3.cell? ⟨N, 7, none⟩ = some (.int .i64 epoch) := cell_at HK.out 7
    have qK8 : W3.cell? ⟨N, 8, none⟩ = some (.int .i64 clease) := cell_at HK.out 8
    have qK9 : W3.cell? ⟨N, 9, none⟩ = some (.int .i64 csize) := cell_at HK.out 9
    have qK10 : W3.cell? ⟨N, 10, none⟩ = some (.int .i64 spent) := cell_at HK.out 10
    have qK11 : W3.cell? ⟨N, 11, none⟩ = some (.bool closed) := cell_at HK.out 11
    have qK12 : W3.cell? ⟨N, 12, none⟩ = some (.slice lsa lsn lsc) := cell_at HK.out 12
    have qKz : ∀ j, W3.frozen? ⟨N, j, none⟩ = false := fun j => free_at HK.out j
    have qKl : N < W3.heap.size := HK.out.lt
    have qA0 : W3.cell? ⟨(N + 1), 0, none⟩ = some (.int .i64 0) := cell_at HA.out 0
    have qA1 : W3.cell? ⟨(N + 1), 1, none⟩ = some (.int .i64 0) := cell_at HA.out 1
    have qA2 : W3.cell? ⟨(N + 1), 2, none⟩ = some (.int .i64 0) := cell_at HA.out 2
    have qA3 : W3.cell? ⟨(N + 1), 3, none⟩ = some (.int .i64 0) := cell_at HA.out 3
    have qA4 : W3.cell? ⟨(N + 1), 4, none⟩ = some (.int .i64 0) := cell_at HA.out 4
    have qAz : ∀ j, W3.frozen? ⟨(N + 1), j, none⟩ = false := fun j => free_at HA.out j
    have qAl : (N + 1) < W3.heap.size := HA.out.lt
    go_wp2_with fail
    go_at_call 50
    go_fit (HCO.out _ HT.out)
    rintro e W4 ⟨v1, ob1, rfl, hv1, hB⟩
    clear qK0 qK1 qK2 qK3 qK4 qK5 qK6 qK7 qK8 qK9 qK10 qK11 qK12 qKz qKl qA0 qA1 qA2 qA3 qA4 qAz qAl
    replace HB := Lib.hid (HB.out.trans (hB.mono HB.out.size))
    replace HT := Lib.hid (HT0.out.below HB.out)
    replace HK := Lib.hid (HK.out.step hB)
    replace HA := Lib.hid (HA.out.step hB)
    clear hB
    have HO := Lib.hid (hv1.le HF0.out)
    have HX2 := Lib.hid (fun g (e : ob1 = some g) => Nat.lt_of_lt_of_le HX1.out (hv1.2.2 g e))
    clear hv1
    have qA0 : W4.cell? ⟨(N + 1), 0, none⟩ = some (.int .i64 0) := cell_at HA.out 0
    have qA1 : W4.cell? ⟨(N + 1), 1, none⟩ = some (.int .i64 0) := cell_at HA.out 1
    have qA2 : W4.cell? ⟨(N + 1), 2, none⟩ = some (.int .i64 0) := cell_at HA.out 2
    have qA3 : W4.cell? ⟨(N + 1), 3, none⟩ = some (.int .i64 0) := cell_at HA.out 3
    have qA4 : W4.cell? ⟨(N + 1), 4, none⟩ = some (.int .i64 0) := cell_at HA.out 4
    have qAz : ∀ j, W4.frozen? ⟨(N + 1), j, none⟩ = false := fun j => free_at HA.out j
    have qAl : (N + 1) < W4.heap.size := HA.out.lt
    go_wp2_with fail
    clear qA0 qA1 qA2 qA3 qA4 qAz qAl
    obtain ⟨LS, hLS⟩ : ∃ L : List Value, L = [.int .i64 2, .int .i64 0, .int .i64 0, .int .i64 0, .int .i64 0] := ⟨_, rfl⟩
    obtain ⟨W5, hWS⟩ : ∃ WS, WS = W4.setCells (N + 1) 0 LS := ⟨_, rfl⟩
    have hch := hWS
    rw [hLS] at hch
    simp only [World.setCells, Nat.zero_add, Nat.reduceAdd] at hch
    rw [← hch]
    clear hch
    have hkS := stC_blk HA.out LS (by rw [hLS]; rfl)
    have hfS := stC_fr (N + 1) LS 0 W4
    rw [← hWS] at hkS hfS
    rw [hLS] at hkS
    replace HB := Lib.hid (HB.out.trans (hfS.below HB.out.size (by have := HLON.out; simp; try omega)))
    replace HK := Lib.hid (show Blk W5 N #[.int .i8 kind, .int .i64 client, .int .i64 number, .int .i64 tenant, .int .i64 crate, .int .i64 cburst, .int .i64 shaper, .int .i64 epoch, .int .i64 clease, .int .i64 csize, .int .i64 spent, .bool closed, .slice lsa lsn lsc] 51 from (hfS.block _ HK.out.lt (by simp; try omega)).trans HK.out)
    replace HO := Lib.hid (HO.out.frT HA.out hfS (by decide))
    replace HA := Lib.hid (show Blk W5 (N + 1) #[.int .i64 2, .int .i64 0, .int .i64 0, .int .i64 0, .int .i64 0] 54 from hkS)
    clear hWS hLS hkS hfS
    have qA0 : W5.cell? ⟨(N + 1), 0, none⟩ = some (.int .i64 2) := cell_at HA.out 0
    have qA1 : W5.cell? ⟨(N + 1), 1, none⟩ = some (.int .i64 0) := cell_at HA.out 1
    have qA2 : W5.cell? ⟨(N + 1), 2, none⟩ = some (.int .i64 0) := cell_at HA.out 2
    have qA3 : W5.cell? ⟨(N + 1), 3, none⟩ = some (.int .i64 0) := cell_at HA.out 3
    have qA4 : W5.cell? ⟨(N + 1), 4, none⟩ = some (.int .i64 0) := cell_at HA.out 4
    have qAz : ∀ j, W5.frozen? ⟨(N + 1), j, none⟩ = false := fun j => free_at HA.out j
    have qAl : (N + 1) < W5.heap.size := HA.out.lt
    exact bodyPost_ret (v := .tuple #[v1, .agg #[.int .i64 2, .int .i64 0, .int .i64 0, .int .i64 0, .int .i64 0]]) (by simp [results, Try.results21, go_sem, qA0, qA1, qA2, qA3, qA4]) rfl ⟨_, rfl, ⟨_, HO.out⟩, HB.out⟩
  have qK0 : W3.cell? ⟨N, 0, none⟩ = some (.int .i8 kind) := cell_at HK.out 0
  have qK1 : W3.cell? ⟨N, 1, none⟩ = some (.int .i64 client) := cell_at HK.out 1
  have qK2 : W3.cell? ⟨N, 2, none⟩ = some (.int .i64 number) := cell_at HK.out 2
  have qK3 : W3.cell? ⟨N, 3, none⟩ = some (.int .i64 tenant) := cell_at HK.out 3
  have qK4 : W3.cell? ⟨N, 4, none⟩ = some (.int .i64 crate) := cell_at HK.out 4
  have qK5 : W3.cell? ⟨N, 5, none⟩ = some (.int .i64 cburst) := cell_at HK.out 5
  have qK6 : W3.cell? ⟨N, 6, none⟩ = some (.int .i64 shaper) := cell_at HK.out 6
  have qK7 : W3.cell? ⟨N, 7, none⟩ = some (.int .i64 epoch) := cell_at HK.out 7
  have qK8 : W3.cell? ⟨N, 8, none⟩ = some (.int .i64 clease) := cell_at HK.out 8
  have qK9 : W3.cell? ⟨N, 9, none⟩ = some (.int .i64 csize) := cell_at HK.out 9
  have qK10 : W3.cell? ⟨N, 10, none⟩ = some (.int .i64 spent) := cell_at HK.out 10
  have qK11 : W3.cell? ⟨N, 11, none⟩ = some (.bool closed) := cell_at HK.out 11
  have qK12 : W3.cell? ⟨N, 12, none⟩ = some (.slice lsa lsn lsc) := cell_at HK.out 12
  have qKz : ∀ j, W3.frozen? ⟨N, j, none⟩ = false := fun j => free_at HK.out j
  have qKl : N < W3.heap.size := HK.out.lt
  go_wp2_with fail
  go_at_call 49
  go_fit (HMA.out _)
  rintro e W4 ⟨rfl, hB⟩
  clear qK0 qK1 qK2 qK3 qK4 qK5 qK6 qK7 qK8 qK9 qK10 qK11 qK12 qKz qKl
  replace HB := Lib.hid (HB.out.trans (hB.mono HB.out.size))
  replace HT := Lib.hid (HT0.out.below HB.out)
  replace HK := Lib.hid (HK.out.step hB)
  replace HA := Lib.hid (HA.out.step hB)
  clear hB
  cases B2
  · skip
    have hd := do_bad (t := t) (k := kind) (n := tenant) (r := crate) (b := cburst) (by rw [← HB1.out, ← HB2.out]; rfl)
    rw [hd] at HD
    have hD := HD.out
    subst hD
    have HF0 := Lib.hid HB.out.size
    have HX1 := Lib.hid HA.out.lt
    have qK0 : W4.cell? ⟨N, 0, none⟩ = some (.int .i8 kind) := cell_at HK.out 0
    have qK1 : W4.cell? ⟨N, 1, none⟩ = some (.int .i64 client) := cell_at HK.out 1
    have qK2 : W4.cell? ⟨N, 2, none⟩ = some (.int .i64 number) := cell_at HK.out 2
    have qK3 : W4.cell? ⟨N, 3, none⟩ = some (.int .i64 tenant) := cell_at HK.out 3
    have qK4 : W4.cell? ⟨N, 4, none⟩ = some (.int .i64 crate) := cell_at HK.out 4
    have qK5 : W4.cell? ⟨N, 5, none⟩ = some (.int .i64 cburst) := cell_at HK.out 5
    have qK6 : W4.cell? ⟨N, 6, none⟩ = some (.int .i64 shaper) := cell_at HK.out 6
    have qK7 : W4.cell? ⟨N, 7, none⟩ = some (.int .i64 epoch) := cell_at HK.out 7
    have qK8 : W4.cell? ⟨N, 8, none⟩ = some (.int .i64 clease) := cell_at HK.out 8
    have qK9 : W4.cell? ⟨N, 9, none⟩ = some (.int .i64 csize) := cell_at HK.out 9
    have qK10 : W4.cell? ⟨N, 10, none⟩ = some (.int .i64 spent) := cell_at HK.out 10
    have qK11 : W4.cell? ⟨N, 11, none⟩ = some (.bool closed) := cell_at HK.out 11
    have qK12 : W4.cell? ⟨N, 12, none⟩ = some (.slice lsa lsn lsc) := cell_at HK.out 12
    have qKz : ∀ j, W4.frozen? ⟨N, j, none⟩ = false := fun j => free_at HK.out j
    have qKl : N < W4.heap.size := HK.out.lt
    have qA0 : W4.cell? ⟨(N + 1), 0, none⟩ = some (.int .i64 0) := cell_at HA.out 0
    have qA1 : W4.cell? ⟨(N + 1), 1, none⟩ = some (.int .i64 0) := cell_at HA.out 1
    have qA2 : W4.cell? ⟨(N + 1), 2, none⟩ = some (.int .i64 0) := cell_at HA.out 2
    have qA3 : W4.cell? ⟨(N + 1), 3, none⟩ = some (.int .i64 0) := cell_at HA.out 3
    have qA4 : W4.cell? ⟨(N + 1), 4, none⟩ = some (.int .i64 0) := cell_at HA.out 4
    have qAz : ∀ j, W4.frozen? ⟨(N + 1), j, none⟩ = false := fun j => free_at HA.out j
    have qAl : (N + 1) < W4.heap.size := HA.out.lt
    go_wp2_with fail
    go_at_call 50
    go_fit (HCO.out _ HT.out)
    rintro e W5 ⟨v1, ob1, rfl, hv1, hB⟩
    clear qK0 qK1 qK2 qK3 qK4 qK5 qK6 qK7 qK8 qK9 qK10 qK11 qK12 qKz qKl qA0 qA1 qA2 qA3 qA4 qAz qAl
    replace HB := Lib.hid (HB.out.trans (hB.mono HB.out.size))
    replace HT := Lib.hid (HT0.out.below HB.out)
    replace HK := Lib.hid (HK.out.step hB)
    replace HA := Lib.hid (HA.out.step hB)
    clear hB
    have HO := Lib.hid (hv1.le HF0.out)
    have HX2 := Lib.hid (fun g (e : ob1 = some g) => Nat.lt_of_lt_of_le HX1.out (hv1.2.2 g e))
    clear hv1
    have qA0 : W5.cell? ⟨(N + 1), 0, none⟩ = some (.int .i64 0) := cell_at HA.out 0
    have qA1 : W5.cell? ⟨(N + 1), 1, none⟩ = some (.int .i64 0) := cell_at HA.out 1
    have qA2 : W5.cell? ⟨(N + 1), 2, none⟩ = some (.int .i64 0) := cell_at HA.out 2
    have qA3 : W5.cell? ⟨(N + 1), 3, none⟩ = some (.int .i64 0) := cell_at HA.out 3
    have qA4 : W5.cell? ⟨(N + 1), 4, none⟩ = some (.int .i64 0) := cell_at HA.out 4
    have qAz : ∀ j, W5.frozen? ⟨(N + 1), j, none⟩ = false := fun j => free_at HA.out j
    have qAl : (N + 1) < W5.heap.size := HA.out.lt
    go_wp2_with fail
    clear qA0 qA1 qA2 qA3 qA4 qAz qAl
    obtain ⟨LS, hLS⟩ : ∃ L : List Value, L = [.int .i64 2, .int .i64 0, .int .i64 0, .int .i64 0, .int .i64 0] := ⟨_, rfl⟩
    obtain ⟨W6, hWS⟩ : ∃ WS, WS = W5.setCells (N + 1) 0 LS := ⟨_, rfl⟩
    have hch := hWS
    rw [hLS] at hch
    simp only [World.setCells, Nat.zero_add, Nat.reduceAdd] at hch
    rw [← hch]
    clear hch
    have hkS := stC_blk HA.out LS (by rw [hLS]; rfl)
    have hfS := stC_fr (N + 1) LS 0 W5
    rw [← hWS] at hkS hfS
    rw [hLS] at hkS
    replace HB := Lib.hid (HB.out.trans (hfS.below HB.out.size (by have := HLON.out; simp; try omega)))
    replace HK := Lib.hid (show Blk W6 N #[.int .i8 kind, .int .i64 client, .int .i64 number, .int .i64 tenant, .int .i64 crate, .int .i64 cburst, .int .i64 shaper, .int .i64 epoch, .int .i64 clease, .int .i64 csize, .int .i64 spent, .bool closed, .slice lsa lsn lsc] 51 from (hfS.block _ HK.out.lt (by simp; try omega)).trans HK.out)
    replace HO := Lib.hid (HO.out.frT HA.out hfS (by decide))
    replace HA := Lib.hid (show Blk W6 (N + 1) #[.int .i64 2, .int .i64 0, .int .i64 0, .int .i64 0, .int .i64 0] 54 from hkS)
    clear hWS hLS hkS hfS
    have qA0 : W6.cell? ⟨(N + 1), 0, none⟩ = some (.int .i64 2) := cell_at HA.out 0
    have qA1 : W6.cell? ⟨(N + 1), 1, none⟩ = some (.int .i64 0) := cell_at HA.out 1
    have qA2 : W6.cell? ⟨(N + 1), 2, none⟩ = some (.int .i64 0) := cell_at HA.out 2
    have qA3 : W6.cell? ⟨(N + 1), 3, none⟩ = some (.int .i64 0) := cell_at HA.out 3
    have qA4 : W6.cell? ⟨(N + 1), 4, none⟩ = some (.int .i64 0) := cell_at HA.out 4
    have qAz : ∀ j, W6.frozen? ⟨(N + 1), j, none⟩ = false := fun j => free_at HA.out j
    have qAl : (N + 1) < W6.heap.size := HA.out.lt
    exact bodyPost_ret (v := .tuple #[v1, .agg #[.int .i64 2, .int .i64 0, .int .i64 0, .int .i64 0, .int .i64 0]]) (by simp [results, Try.results21, go_sem, qA0, qA1, qA2, qA3, qA4]) rfl ⟨_, rfl, ⟨_, HO.out⟩, HB.out⟩
  have HOK : Hid ((tblB 0 t && cmdB kind tenant) = true) := Lib.hid (by rw [← HB1.out, ← HB2.out]; rfl)
  have hk3 : 1 ≤ kind ∧ kind ≤ 3 := by have := HB2.out; simp only [cmdB, tenB] at this; have h2 := this.symm; simp only [Bool.and_eq_true, decide_eq_true_eq] at h2; exact h2.1
  have HK3 := Lib.hid hk3
  have htn : 1 ≤ tenant ∧ tenant ≤ 16 := by have := HB2.out; simp only [cmdB, tenB] at this; have h2 := this.symm; simp only [Bool.and_eq_true, decide_eq_true_eq] at h2; exact h2.2
  have HTN := Lib.hid htn
  clear hk3 htn
  go_upto_region 5 with fail
  obtain ⟨P, hP⟩ : ∃ n0, n0 = W4.heap.size := ⟨_, rfl⟩
  have HXPHK : Hid (N < P) := Lib.hid (by rw [hP]; exact HK.out.lt)
  have HXPHA : Hid ((N + 1) < P) := Lib.hid (by rw [hP]; exact HA.out.lt)
  have HLOP : Hid (w.heap.size ≤ P) := Lib.hid (by have := HB.out.size; omega)
  obtain ⟨W5, hA0⟩ : ∃ W0, W0 = W4.alloc (.cells #[.int .i64 0, .int .i64 0, .int .i64 0, .int .i64 0] 87) := ⟨_, rfl⟩
  have hB : Below W4.heap.size W4 W5 := by rw [hA0]; exact (Below.refl _ _).alloc (Nat.le_refl _) _
  have hS0 : W5.heap.size = P + 1 := by rw [hA0]; simp [← hP]
  have HP := Lib.hid (show Blk W5 P #[.int .i64 0, .int .i64 0, .int .i64 0, .int .i64 0] 87 by rw [hA0, hP]; exact blk_new _ _ _)
  replace HB := Lib.hid (HB.out.trans (hB.mono HB.out.size))
  replace HT := Lib.hid (HT0.out.below HB.out)
  replace HK := Lib.hid (HK.out.step hB)
  replace HA := Lib.hid (HA.out.step hB)
  clear hB
  have HSP := Lib.hid hS0
  rw [← hP, ← hA0]
  clear hA0 hP hS0
  obtain ⟨M, hM⟩ : ∃ n0, n0 = W5.heap.size := ⟨_, rfl⟩
  have HLOM : Hid (w.heap.size ≤ M) := Lib.hid (by have := HB.out.size; omega)
  have HFM : Hid (M ≤ W5.heap.size) := Lib.hid (by omega)
  have HXMHK : Hid (N < M) := Lib.hid (by rw [hM]; exact HK.out.lt)
  have HXMHA : Hid ((N + 1) < M) := Lib.hid (by rw [hM]; exact HA.out.lt)
  have HXMHP : Hid (P < M) := Lib.hid (by rw [hM]; exact HP.out.lt)
  clear hM
  go_wp2_with fail
  go_loopw [6, 7, 9, 10] (fun va vb vt i wr => ∃ (k : Nat) (oa ob : Option Nat), k ≤ n ∧ i = .int .i64 k ∧ vt = .bool (((t.take k).find? (fun f => decide (f.tenant = tenant))).isSome) ∧ FcO M wr va oa ((t.take k).filter (fun f => decide (f.tenant < tenant))) ∧ FcO M wr vb ob ((t.take k).filter (fun f => decide (tenant < f.tenant))) ∧ (∀ g, oa = some g → ob ≠ some g) ∧ Blk wr N #[.int .i8 kind, .int .i64 client, .int .i64 number, .int .i64 tenant, .int .i64 crate, .int .i64 cburst, .int .i64 shaper, .int .i64 epoch, .int .i64 clease, .int .i64 csize, .int .i64 spent, .bool closed, .slice lsa lsn lsc] 51 ∧ Blk wr (N + 1) #[.int .i64 0, .int .i64 0, .int .i64 0, .int .i64 0, .int .i64 0] 54 ∧ Blk wr P #[.int .i64 (ownF (t.take k) tenant).tick, .int .i64 (ownF (t.take k) tenant).tenant, .int .i64 (ownF (t.take k) tenant).rate, .int .i64 (ownF (t.take k) tenant).burst] 87 ∧ Below w.heap.size w wr ∧ M ≤ wr.heap.size) (fun _ _ _ i _ => n - (intOf i).toNat)
  case atStart => exact ⟨0, none, none, Nat.zero_le _, rfl, rfl, fco_nil _ _, fco_nil _ _, (fun g e => by cases e), HK.out, HA.out, HP.out, HB.out, HFM.out⟩
  case round =>
    clear HK HA HP HB HFM HT
    obtain ⟨k, oa, ob, hk, rfl, rfl, hva, hvb, hdis, hK, hA, hP, hB, hM⟩ := hrel
    have HVA := Lib.hid hva
    have HVB := Lib.hid hvb
    have HDIS := Lib.hid hdis
    have HK := Lib.hid hK
    have HA := Lib.hid hA
    have HP := Lib.hid hP
    have HB := Lib.hid hB
    have HFM := Lib.hid hM
    have HT := Lib.hid (HT0.out.below HB.out)
    obtain ⟨fs, hfs⟩ : ∃ f, f = ((t.take k).find? (fun f => decide (f.tenant = tenant))).isSome := ⟨_, rfl⟩
    rw [← hfs]
    obtain ⟨own, hown⟩ : ∃ f, f = ownF (t.take k) tenant := ⟨_, rfl⟩
    rw [← hown] at HP
    have HFS := Lib.hid hfs
    have HOWN := Lib.hid hown
    clear hva hvb hdis hK hA hP hB hM hfs hown
    by_cases hlt : k < n
    · skip
      have hx9 := (HT.out).at k hlt
      obtain ⟨g, o, x, ea, g1, hx, y0, y1, y2, y3⟩ := hx9
      subst ea
      have htk : t.take (k + 1) = t.take k ++ [x] := by rw [List.take_add_one, hx]; rfl
      have HTK := Lib.hid htk
      have HX := Lib.hid hx
      have HLT := Lib.hid hlt
      have hxok : x.ok := HT0.out.ok x (List.mem_of_getElem? hx)
      have HXOK := Lib.hid hxok
      have ww5 : IntKind.i64.wrap ((k : Int) + 1) = (k : Int) + 1 := IntWalk.i64_in _ (by omega)
      have b9 : ((k : Int) < (n : Int)) = True := eq_true (by omega)
      have bk1 : (k < n) = True := eq_true hlt
      clear hx htk hxok hlt
      rcases Int.lt_trichotomy x.tenant tenant with c1 | c1 | c1
      · skip
        have l1 : decide (x.tenant < tenant) = true := decide_eq_true (by omega)
        have l2 : decide (tenant < x.tenant) = false := decide_eq_false (by omega)
        have l3 : (x.tenant == tenant) = false := by simp; omega
        have HLOF : Hid ((t.take (k + 1)).filter (fun f => decide (f.tenant < tenant)) = (t.take k).filter (fun f => decide (f.tenant < tenant)) ++ [x]) := Lib.hid (by rw [HTK.out, List.filter_append, List.filter_cons_of_pos (by simpa using c1)]; rfl)
        have HGRF : Hid ((t.take (k + 1)).filter (fun f => decide (tenant < f.tenant)) = (t.take k).filter (fun f => decide (tenant < f.tenant))) := Lib.hid (by rw [HTK.out, List.filter_append, List.filter_cons_of_neg (by simp; omega)]; simp)
        have HOW2 : Hid (own = ownF (t.take (k + 1)) tenant) := Lib.hid (by rw [HOWN.out]; unfold ownF; rw [HTK.out, List.find?_append, List.find?_cons_of_neg (by simp; omega)]; simp)
        have HFS2 : Hid (((t.take (k + 1)).find? (fun f => decide (f.tenant = tenant))).isSome = fs) := Lib.hid (by rw [HFS.out, HTK.out, List.find?_append, List.find?_cons_of_neg (by simp; omega)]; simp)
        clear c1
        have qK0 : wr.cell? ⟨N, 0, none⟩ = some (.int .i8 kind) := cell_at HK.out 0
        have qK1 : wr.cell? ⟨N, 1, none⟩ = some (.int .i64 client) := cell_at HK.out 1
        have qK2 : wr.cell? ⟨N, 2, none⟩ = some (.int .i64 number) := cell_at HK.out 2
        have qK3 : wr.cell? ⟨N, 3, none⟩ = some (.int .i64 tenant) := cell_at HK.out 3
        have qK4 : wr.cell? ⟨N, 4, none⟩ = some (.int .i64 crate) := cell_at HK.out 4
        have qK5 : wr.cell? ⟨N, 5, none⟩ = some (.int .i64 cburst) := cell_at HK.out 5
        have qK6 : wr.cell? ⟨N, 6, none⟩ = some (.int .i64 shaper) := cell_at HK.out 6
        have qK7 : wr.cell? ⟨N, 7, none⟩ = some (.int .i64 epoch) := cell_at HK.out 7
        have qK8 : wr.cell? ⟨N, 8, none⟩ = some (.int .i64 clease) := cell_at HK.out 8
        have qK9 : wr.cell? ⟨N, 9, none⟩ = some (.int .i64 csize) := cell_at HK.out 9
        have qK10 : wr.cell? ⟨N, 10, none⟩ = some (.int .i64 spent) := cell_at HK.out 10
        have qK11 : wr.cell? ⟨N, 11, none⟩ = some (.bool closed) := cell_at HK.out 11
        have qK12 : wr.cell? ⟨N, 12, none⟩ = some (.slice lsa lsn lsc) := cell_at HK.out 12
        have qKz : ∀ j, wr.frozen? ⟨N, j, none⟩ = false := fun j => free_at HK.out j
        have qKl : N < wr.heap.size := HK.out.lt
        go_wp2_with fail
        (refine wp_region_quiet_lit (by kernel_rfl) (by kernel_rfl) ?_; (repeat (first | go_big_quiet_step (fail) | (refine BigFrame.wpQuiet_skip (by rfl) ?_; try simp only [Act.put, List.setIfInBounds_toArray, List.set_cons_zero, List.set_cons_succ]))); refine wpQuiet_nil ?_; intro _ hw9; obtain ⟨nq, hw8⟩ := hw9; subst hw8)
        clear y0 y1 y2 y3 qK0 qK1 qK2 qK3 qK4 qK5 qK6 qK7 qK8 qK9 qK10 qK11 qK12 qKz qKl
        obtain ⟨W6, hWn⟩ : ∃ X, X = wr.drewN nq := ⟨_, rfl⟩
        rw [← hWn]
        have hB : Below wr.heap.size wr W6 := by rw [hWn]; exact dN _ _
        clear hWn
        replace HB := Lib.hid (HB.out.trans (hB.mono HB.out.size))
        replace HT := Lib.hid (HT0.out.below HB.out)
        replace HK := Lib.hid (HK.out.step hB)
        replace HA := Lib.hid (HA.out.step hB)
        replace HP := Lib.hid (HP.out.step hB)
        replace HVA := Lib.hid (HVA.out.step hB)
        replace HVB := Lib.hid (HVB.out.step hB)
        replace HFM := Lib.hid (Nat.le_trans HFM.out hB.size)
        clear hB
        obtain ⟨g2, o2, x2, ea, g12, hx2, y0, y1, y2, y3⟩ := HT.out.at k HLT.out
        obtain ⟨rfl, rfl⟩ : g = g2 ∧ o = o2 := by injection ea with e; injection e with e1 e2; exact ⟨e1, e2⟩
        obtain rfl : x = x2 := (Option.some.inj (hx2.symm.trans HX.out)).symm
        clear ea hx2
        have hB9 : Below W6.heap.size W6 (W6.alloc (.cells #[.int .i64 x.tick, .int .i64 x.tenant, .int .i64 x.rate, .int .i64 x.burst] 87)) := (Below.refl _ _).alloc (Nat.le_refl _) _
        obtain ⟨v3, g3, W7, hrun, hio, hgr, hwh, hBM⟩ := fc_push (ty := 48) (b := W6.heap.size) (x := x) (HVA.out.step hB9) (blk_new _ _ _) HXOK.out (Nat.le_trans HFM.out hB9.size) (by have := HVA.out; have hq := List.length_filter_le (fun f => decide (f.tenant < tenant)) (t.take k); have hq2 := List.length_take (i := k) (l := t); have := HL.out; omega)
        have HRUN := Lib.hid hrun
        have hnew : ∀ g, ob = some g → g3 ≠ g := fun g e h => by
          subst h
          rcases hwh with h1 | h1
          · exact HDIS.out g3 h1 e
          · have := (HVB.out.1.congr (w' := W6) fun _ _ => rfl)
            have h2 : g3 < W6.heap.size := by subst e; exact HVB.out.1.lt
            rw [h1] at h2
            simp at h2
            omega
        have hoth := (HVB.out.step hB9).grown hgr (fun g e => by exact fun h => HDIS.out g h e)
        have HO3 := Lib.hid hio
        have HOTH := Lib.hid hoth
        have HNEW := Lib.hid hnew
        replace HB := Lib.hid ((HB.out.alloc HB.out.size _).trans (hBM.mono HLOM.out))
        replace HFM := Lib.hid (Nat.le_trans HFM.out (Nat.le_trans hB9.size hBM.size))
        replace HK := Lib.hid ((HK.out.step hB9).stepM hBM HXMHK.out)
        replace HA := Lib.hid ((HA.out.step hB9).stepM hBM HXMHA.out)
        replace HP := Lib.hid ((HP.out.step hB9).stepM hBM HXMHP.out)
        clear hB9 hrun hio hgr hwh hBM hnew hoth HVA HVB HT
        have HVA := HO3
        have HVB := HOTH
        have HT := Lib.hid (HT0.out.below HB.out)
        clear HO3 HOTH
        go_upto_region 11 with (at_builtin; refine Lib.wpList_append_run _ rfl (.tmp 37) (.tmp 42) 48 48 rfl _ _ rfl rfl _ _ HRUN.out ?_)
        clear HRUN
        obtain ⟨g2, o2, x2, ea, g12, hx2, y0, y1, y2, y3⟩ := HT.out.at k HLT.out
        obtain ⟨rfl, rfl⟩ : g = g2 ∧ o = o2 := by injection ea with e; injection e with e1 e2; exact ⟨e1, e2⟩
        obtain rfl : x = x2 := (Option.some.inj (hx2.symm.trans HX.out)).symm
        clear ea hx2
        have qK0 : W7.cell? ⟨N, 0, none⟩ = some (.int .i8 kind) := cell_at HK.out 0
        have qK1 : W7.cell? ⟨N, 1, none⟩ = some (.int .i64 client) := cell_at HK.out 1
        have qK2 : W7.cell? ⟨N, 2, none⟩ = some (.int .i64 number) := cell_at HK.out 2
        have qK3 : W7.cell? ⟨N, 3, none⟩ = some (.int .i64 tenant) := cell_at HK.out 3
        have qK4 : W7.cell? ⟨N, 4, none⟩ = some (.int .i64 crate) := cell_at HK.out 4
        have qK5 : W7.cell? ⟨N, 5, none⟩ = some (.int .i64 cburst) := cell_at HK.out 5
        have qK6 : W7.cell? ⟨N, 6, none⟩ = some (.int .i64 shaper) := cell_at HK.out 6
        have qK7 : W7.cell? ⟨N, 7, none⟩ = some (.int .i64 epoch) := cell_at HK.out 7
        have qK8 : W7.cell? ⟨N, 8, none⟩ = some (.int .i64 clease) := cell_at HK.out 8
        have qK9 : W7.cell? ⟨N, 9, none⟩ = some (.int .i64 csize) := cell_at HK.out 9
        have qK10 : W7.cell? ⟨N, 10, none⟩ = some (.int .i64 spent) := cell_at HK.out 10
        have qK11 : W7.cell? ⟨N, 11, none⟩ = some (.bool closed) := cell_at HK.out 11
        have qK12 : W7.cell? ⟨N, 12, none⟩ = some (.slice lsa lsn lsc) := cell_at HK.out 12
        have qKz : ∀ j, W7.frozen? ⟨N, j, none⟩ = false := fun j => free_at HK.out j
        have qKl : N < W7.heap.size := HK.out.lt
        go_wp2_with fail
        (refine wp_region_quiet_lit (by kernel_rfl) (by kernel_rfl) ?_; (repeat (first | go_big_quiet_step (fail) | (refine BigFrame.wpQuiet_skip (by rfl) ?_; try simp only [Act.put, List.setIfInBounds_toArray, List.set_cons_zero, List.set_cons_succ]))); refine wpQuiet_nil ?_; intro _ hw9; obtain ⟨nq, hw8⟩ := hw9; subst hw8)
        clear y0 y1 y2 y3 qK0 qK1 qK2 qK3 qK4 qK5 qK6 qK7 qK8 qK9 qK10 qK11 qK12 qKz qKl
        obtain ⟨W8, hWn⟩ : ∃ X, X = W7.drewN nq := ⟨_, rfl⟩
        rw [← hWn]
        have hB : Below W7.heap.size W7 W8 := by rw [hWn]; exact dN _ _
        clear hWn
        replace HB := Lib.hid (HB.out.trans (hB.mono HB.out.size))
        replace HT := Lib.hid (HT0.out.below HB.out)
        replace HK := Lib.hid (HK.out.step hB)
        replace HA := Lib.hid (HA.out.step hB)
        replace HP := Lib.hid (HP.out.step hB)
        replace HVA := Lib.hid (HVA.out.step hB)
        replace HVB := Lib.hid (HVB.out.step hB)
        replace HFM := Lib.hid (Nat.le_trans HFM.out hB.size)
        clear hB
        obtain ⟨g2, o2, x2, ea, g12, hx2, y0, y1, y2, y3⟩ := HT.out.at k HLT.out
        obtain ⟨rfl, rfl⟩ : g = g2 ∧ o = o2 := by injection ea with e; injection e with e1 e2; exact ⟨e1, e2⟩
        obtain rfl : x = x2 := (Option.some.inj (hx2.symm.trans HX.out)).symm
        clear ea hx2
        have qK0 : W8.cell? ⟨N, 0, none⟩ = some (.int .i8 kind) := cell_at HK.out 0
        have qK1 : W8.cell? ⟨N, 1, none⟩ = some (.int .i64 client) := cell_at HK.out 1
        have qK2 : W8.cell? ⟨N, 2, none⟩ = some (.int .i64 number) := cell_at HK.out 2
        have qK3 : W8.cell? ⟨N, 3, none⟩ = some (.int .i64 tenant) := cell_at HK.out 3
        have qK4 : W8.cell? ⟨N, 4, none⟩ = some (.int .i64 crate) := cell_at HK.out 4
        have qK5 : W8.cell? ⟨N, 5, none⟩ = some (.int .i64 cburst) := cell_at HK.out 5
        have qK6 : W8.cell? ⟨N, 6, none⟩ = some (.int .i64 shaper) := cell_at HK.out 6
        have qK7 : W8.cell? ⟨N, 7, none⟩ = some (.int .i64 epoch) := cell_at HK.out 7
        have qK8 : W8.cell? ⟨N, 8, none⟩ = some (.int .i64 clease) := cell_at HK.out 8
        have qK9 : W8.cell? ⟨N, 9, none⟩ = some (.int .i64 csize) := cell_at HK.out 9
        have qK10 : W8.cell? ⟨N, 10, none⟩ = some (.int .i64 spent) := cell_at HK.out 10
        have qK11 : W8.cell? ⟨N, 11, none⟩ = some (.bool closed) := cell_at HK.out 11
        have qK12 : W8.cell? ⟨N, 12, none⟩ = some (.slice lsa lsn lsc) := cell_at HK.out 12
        have qKz : ∀ j, W8.frozen? ⟨N, j, none⟩ = false := fun j => free_at HK.out j
        have qKl : N < W8.heap.size := HK.out.lt
        go_wp2_with fail
        (refine wp_region_quiet_lit (by kernel_rfl) (by kernel_rfl) ?_; (repeat (first | go_big_quiet_step (fail) | (refine BigFrame.wpQuiet_skip (by rfl) ?_; try simp only [Act.put, List.setIfInBounds_toArray, List.set_cons_zero, List.set_cons_succ]))); refine wpQuiet_nil ?_; intro _ hw9; obtain ⟨nq, hw8⟩ := hw9; subst hw8)
        clear y0 y1 y2 y3 qK0 qK1 qK2 qK3 qK4 qK5 qK6 qK7 qK8 qK9 qK10 qK11 qK12 qKz qKl
        obtain ⟨W9, hWn⟩ : ∃ X, X = W8.drewN nq := ⟨_, rfl⟩
        rw [← hWn]
        have hB : Below W8.heap.size W8 W9 := by rw [hWn]; exact dN _ _
        clear hWn
        replace HB := Lib.hid (HB.out.trans (hB.mono HB.out.size))
        replace HT := Lib.hid (HT0.out.below HB.out)
        replace HK := Lib.hid (HK.out.step hB)
        replace HA := Lib.hid (HA.out.step hB)
        replace HP := Lib.hid (HP.out.step hB)
        replace HVA := Lib.hid (HVA.out.step hB)
        replace HVB := Lib.hid (HVB.out.step hB)
        replace HFM := Lib.hid (Nat.le_trans HFM.out hB.size)
        clear hB
        go_wp2_with fail
        go_roundw
        case rel => exact ⟨k + 1, some g3, ob, by have := HLT.out; omega, by go_num, by first | (rw [HFS2.out]) | rfl, by rw [HLOF.out]; exact HVA.out, by rw [HGRF.out]; exact HVB.out, (fun g e h => by obtain rfl := Option.some.inj e; exact HNEW.out g3 h rfl), HK.out, HA.out, by rw [← HOW2.out]; exact HP.out, HB.out, HFM.out⟩
        case measure => (have h8 := HLT.out; first | (simp [intOf]; done) | (simp [intOf]; omega))
      · skip
        have l1 : decide (x.tenant < tenant) = false := decide_eq_false (by omega)
        have l2 : decide (tenant < x.tenant) = false := decide_eq_false (by omega)
        have l3 : (x.tenant == tenant) = true := by simp; omega
        have HLOF : Hid ((t.take (k + 1)).filter (fun f => decide (f.tenant < tenant)) = (t.take k).filter (fun f => decide (f.tenant < tenant))) := Lib.hid (by rw [HTK.out, List.filter_append, List.filter_cons_of_neg (by simp; omega)]; simp)
        have HGRF : Hid ((t.take (k + 1)).filter (fun f => decide (tenant < f.tenant)) = (t.take k).filter (fun f => decide (tenant < f.tenant))) := Lib.hid (by rw [HTK.out, List.filter_append, List.filter_cons_of_neg (by simp; omega)]; simp)
        have hpre : tblB 0 (t.take k ++ [x]) = true := by
          rw [← HTK.out]
          have h9 : tblB 0 t = true := HB1.out.symm
          rw [← List.take_append_drop (k + 1) t] at h9
          exact tbl_prefix h9
        have hfn := own_lt hpre (show x.tenant = tenant by omega)
        have HOW2 : Hid (x = ownF (t.take (k + 1)) tenant) := Lib.hid (by unfold ownF; rw [HTK.out, List.find?_append, hfn, List.find?_cons_of_pos (by simp; omega)]; rfl)
        have HFS2 : Hid (((t.take (k + 1)).find? (fun f => decide (f.tenant = tenant))).isSome = true) := Lib.hid (by rw [HTK.out, List.find?_append, hfn, List.find?_cons_of_pos (by simp; omega)]; rfl)
        clear hpre hfn
        clear c1
        have qK0 : wr.cell? ⟨N, 0, none⟩ = some (.int .i8 kind) := cell_at HK.out 0
        have qK1 : wr.cell? ⟨N, 1, none⟩ = some (.int .i64 client) := cell_at HK.out 1
        have qK2 : wr.cell? ⟨N, 2, none⟩ = some (.int .i64 number) := cell_at HK.out 2
        have qK3 : wr.cell? ⟨N, 3, none⟩ = some (.int .i64 tenant) := cell_at HK.out 3
        have qK4 : wr.cell? ⟨N, 4, none⟩ = some (.int .i64 crate) := cell_at HK.out 4
        have qK5 : wr.cell? ⟨N, 5, none⟩ = some (.int .i64 cburst) := cell_at HK.out 5
        have qK6 : wr.cell? ⟨N, 6, none⟩ = some (.int .i64 shaper) := cell_at HK.out 6
        have qK7 : wr.cell? ⟨N, 7, none⟩ = some (.int .i64 epoch) := cell_at HK.out 7
        have qK8 : wr.cell? ⟨N, 8, none⟩ = some (.int .i64 clease) := cell_at HK.out 8
        have qK9 : wr.cell? ⟨N, 9, none⟩ = some (.int .i64 csize) := cell_at HK.out 9
        have qK10 : wr.cell? ⟨N, 10, none⟩ = some (.int .i64 spent) := cell_at HK.out 10
        have qK11 : wr.cell? ⟨N, 11, none⟩ = some (.bool closed) := cell_at HK.out 11
        have qK12 : wr.cell? ⟨N, 12, none⟩ = some (.slice lsa lsn lsc) := cell_at HK.out 12
        have qKz : ∀ j, wr.frozen? ⟨N, j, none⟩ = false := fun j => free_at HK.out j
        have qKl : N < wr.heap.size := HK.out.lt
        go_wp2_with fail
        (refine wp_region_quiet_lit (by kernel_rfl) (by kernel_rfl) ?_; (repeat (first | go_big_quiet_step (fail) | (refine BigFrame.wpQuiet_skip (by rfl) ?_; try simp only [Act.put, List.setIfInBounds_toArray, List.set_cons_zero, List.set_cons_succ]))); refine wpQuiet_nil ?_; intro _ hw9; obtain ⟨nq, hw8⟩ := hw9; subst hw8)
        clear y0 y1 y2 y3 qK0 qK1 qK2 qK3 qK4 qK5 qK6 qK7 qK8 qK9 qK10 qK11 qK12 qKz qKl
        obtain ⟨W6, hWn⟩ : ∃ X, X = wr.drewN nq := ⟨_, rfl⟩
        rw [← hWn]
        have hB : Below wr.heap.size wr W6 := by rw [hWn]; exact dN _ _
        clear hWn
        replace HB := Lib.hid (HB.out.trans (hB.mono HB.out.size))
        replace HT := Lib.hid (HT0.out.below HB.out)
        replace HK := Lib.hid (HK.out.step hB)
        replace HA := Lib.hid (HA.out.step hB)
        replace HP := Lib.hid (HP.out.step hB)
        replace HVA := Lib.hid (HVA.out.step hB)
        replace HVB := Lib.hid (HVB.out.step hB)
        replace HFM := Lib.hid (Nat.le_trans HFM.out hB.size)
        clear hB
        obtain ⟨g2, o2, x2, ea, g12, hx2, y0, y1, y2, y3⟩ := HT.out.at k HLT.out
        obtain ⟨rfl, rfl⟩ : g = g2 ∧ o = o2 := by injection ea with e; injection e with e1 e2; exact ⟨e1, e2⟩
        obtain rfl : x = x2 := (Option.some.inj (hx2.symm.trans HX.out)).symm
        clear ea hx2
        have qK0 : W6.cell? ⟨N, 0, none⟩ = some (.int .i8 kind) := cell_at HK.out 0
        have qK1 : W6.cell? ⟨N, 1, none⟩ = some (.int .i64 client) := cell_at HK.out 1
        have qK2 : W6.cell? ⟨N, 2, none⟩ = some (.int .i64 number) := cell_at HK.out 2
        have qK3 : W6.cell? ⟨N, 3, none⟩ = some (.int .i64 tenant) := cell_at HK.out 3
        have qK4 : W6.cell? ⟨N, 4, none⟩ = some (.int .i64 crate) := cell_at HK.out 4
        have qK5 : W6.cell? ⟨N, 5, none⟩ = some (.int .i64 cburst) := cell_at HK.out 5
        have qK6 : W6.cell? ⟨N, 6, none⟩ = some (.int .i64 shaper) := cell_at HK.out 6
        have qK7 : W6.cell? ⟨N, 7, none⟩ = some (.int .i64 epoch) := cell_at HK.out 7
        have qK8 : W6.cell? ⟨N, 8, none⟩ = some (.int .i64 clease) := cell_at HK.out 8
        have qK9 : W6.cell? ⟨N, 9, none⟩ = some (.int .i64 csize) := cell_at HK.out 9
        have qK10 : W6.cell? ⟨N, 10, none⟩ = some (.int .i64 spent) := cell_at HK.out 10
        have qK11 : W6.cell? ⟨N, 11, none⟩ = some (.bool closed) := cell_at HK.out 11
        have qK12 : W6.cell? ⟨N, 12, none⟩ = some (.slice lsa lsn lsc) := cell_at HK.out 12
        have qKz : ∀ j, W6.frozen? ⟨N, j, none⟩ = false := fun j => free_at HK.out j
        have qKl : N < W6.heap.size := HK.out.lt
        go_wp2_with fail
        (refine wp_region_quiet_lit (by kernel_rfl) (by kernel_rfl) ?_; (repeat (first | go_big_quiet_step (fail) | (refine BigFrame.wpQuiet_skip (by rfl) ?_; try simp only [Act.put, List.setIfInBounds_toArray, List.set_cons_zero, List.set_cons_succ]))); refine wpQuiet_nil ?_; intro _ hw9; obtain ⟨nq, hw8⟩ := hw9; subst hw8)
        clear y0 y1 y2 y3 qK0 qK1 qK2 qK3 qK4 qK5 qK6 qK7 qK8 qK9 qK10 qK11 qK12 qKz qKl
        obtain ⟨W7, hWn⟩ : ∃ X, X = W6.drewN nq := ⟨_, rfl⟩
        rw [← hWn]
        have hB : Below W6.heap.size W6 W7 := by rw [hWn]; exact dN _ _
        clear hWn
        replace HB := Lib.hid (HB.out.trans (hB.mono HB.out.size))
        replace HT := Lib.hid (HT0.out.below HB.out)
        replace HK := Lib.hid (HK.out.step hB)
        replace HA := Lib.hid (HA.out.step hB)
        replace HP := Lib.hid (HP.out.step hB)
        replace HVA := Lib.hid (HVA.out.step hB)
        replace HVB := Lib.hid (HVB.out.step hB)
        replace HFM := Lib.hid (Nat.le_trans HFM.out hB.size)
        clear hB
        obtain ⟨g2, o2, x2, ea, g12, hx2, y0, y1, y2, y3⟩ := HT.out.at k HLT.out
        obtain ⟨rfl, rfl⟩ : g = g2 ∧ o = o2 := by injection ea with e; injection e with e1 e2; exact ⟨e1, e2⟩
        obtain rfl : x = x2 := (Option.some.inj (hx2.symm.trans HX.out)).symm
        clear ea hx2
        have qK0 : W7.cell? ⟨N, 0, none⟩ = some (.int .i8 kind) := cell_at HK.out 0
        have qK1 : W7.cell? ⟨N, 1, none⟩ = some (.int .i64 client) := cell_at HK.out 1
        have qK2 : W7.cell? ⟨N, 2, none⟩ = some (.int .i64 number) := cell_at HK.out 2
        have qK3 : W7.cell? ⟨N, 3, none⟩ = some (.int .i64 tenant) := cell_at HK.out 3
        have qK4 : W7.cell? ⟨N, 4, none⟩ = some (.int .i64 crate) := cell_at HK.out 4
        have qK5 : W7.cell? ⟨N, 5, none⟩ = some (.int .i64 cburst) := cell_at HK.out 5
        have qK6 : W7.cell? ⟨N, 6, none⟩ = some (.int .i64 shaper) := cell_at HK.out 6
        have qK7 : W7.cell? ⟨N, 7, none⟩ = some (.int .i64 epoch) := cell_at HK.out 7
        have qK8 : W7.cell? ⟨N, 8, none⟩ = some (.int .i64 clease) := cell_at HK.out 8
        have qK9 : W7.cell? ⟨N, 9, none⟩ = some (.int .i64 csize) := cell_at HK.out 9
        have qK10 : W7.cell? ⟨N, 10, none⟩ = some (.int .i64 spent) := cell_at HK.out 10
        have qK11 : W7.cell? ⟨N, 11, none⟩ = some (.bool closed) := cell_at HK.out 11
        have qK12 : W7.cell? ⟨N, 12, none⟩ = some (.slice lsa lsn lsc) := cell_at HK.out 12
        have qKz : ∀ j, W7.frozen? ⟨N, j, none⟩ = false := fun j => free_at HK.out j
        have qKl : N < W7.heap.size := HK.out.lt
        go_wp2_with fail
        (refine wp_region_quiet_lit (by kernel_rfl) (by kernel_rfl) ?_; (repeat (first | go_big_quiet_step (fail) | (refine BigFrame.wpQuiet_skip (by rfl) ?_; try simp only [Act.put, List.setIfInBounds_toArray, List.set_cons_zero, List.set_cons_succ]))); refine wpQuiet_nil ?_; intro _ hw9; obtain ⟨nq, hw8⟩ := hw9; subst hw8)
        clear y0 y1 y2 y3 qK0 qK1 qK2 qK3 qK4 qK5 qK6 qK7 qK8 qK9 qK10 qK11 qK12 qKz qKl
        obtain ⟨W8, hWn⟩ : ∃ X, X = W7.drewN nq := ⟨_, rfl⟩
        rw [← hWn]
        have hB : Below W7.heap.size W7 W8 := by rw [hWn]; exact dN _ _
        clear hWn
        replace HB := Lib.hid (HB.out.trans (hB.mono HB.out.size))
        replace HT := Lib.hid (HT0.out.below HB.out)
        replace HK := Lib.hid (HK.out.step hB)
        replace HA := Lib.hid (HA.out.step hB)
        replace HP := Lib.hid (HP.out.step hB)
        replace HVA := Lib.hid (HVA.out.step hB)
        replace HVB := Lib.hid (HVB.out.step hB)
        replace HFM := Lib.hid (Nat.le_trans HFM.out hB.size)
        clear hB
        obtain ⟨g2, o2, x2, ea, g12, hx2, y0, y1, y2, y3⟩ := HT.out.at k HLT.out
        obtain ⟨rfl, rfl⟩ : g = g2 ∧ o = o2 := by injection ea with e; injection e with e1 e2; exact ⟨e1, e2⟩
        obtain rfl : x = x2 := (Option.some.inj (hx2.symm.trans HX.out)).symm
        clear ea hx2
        have qP0 : W8.cell? ⟨P, 0, none⟩ = some (.int .i64 own.tick) := cell_at HP.out 0
        have qP1 : W8.cell? ⟨P, 1, none⟩ = some (.int .i64 own.tenant) := cell_at HP.out 1
        have qP2 : W8.cell? ⟨P, 2, none⟩ = some (.int .i64 own.rate) := cell_at HP.out 2
        have qP3 : W8.cell? ⟨P, 3, none⟩ = some (.int .i64 own.burst) := cell_at HP.out 3
        have qPz : ∀ j, W8.frozen? ⟨P, j, none⟩ = false := fun j => free_at HP.out j
        have qPl : P < W8.heap.size := HP.out.lt
        go_upto_region 15 with fail
        have FHVA := HXMHP
        have FHVB := HXMHP
        clear y0 y1 y2 y3 qP0 qP1 qP2 qP3 qPz qPl
        obtain ⟨LS, hLS⟩ : ∃ L : List Value, L = [.int .i64 x.tick, .int .i64 x.tenant, .int .i64 x.rate, .int .i64 x.burst] := ⟨_, rfl⟩
        obtain ⟨W9, hWS⟩ : ∃ WS, WS = W8.setCells P 0 LS := ⟨_, rfl⟩
        have hch := hWS
        rw [hLS] at hch
        simp only [World.setCells, Nat.zero_add, Nat.reduceAdd] at hch
        rw [← hch]
        clear hch
        have hkS := stC_blk HP.out LS (by rw [hLS]; rfl)
        have hfS := stC_fr P LS 0 W8
        rw [← hWS] at hkS hfS
        rw [hLS] at hkS
        replace HB := Lib.hid (HB.out.trans (hfS.below HB.out.size (by have := HLOP.out; simp; try omega)))
        replace HT := Lib.hid (HT0.out.below HB.out)
        replace HK := Lib.hid (show Blk W9 N #[.int .i8 kind, .int .i64 client, .int .i64 number, .int .i64 tenant, .int .i64 crate, .int .i64 cburst, .int .i64 shaper, .int .i64 epoch, .int .i64 clease, .int .i64 csize, .int .i64 spent, .bool closed, .slice lsa lsn lsc] 51 from (hfS.block _ HK.out.lt (by have hx0 := HXPHK.out; have hx1 := HXPHA.out; simp; try omega)).trans HK.out)
        replace HA := Lib.hid (show Blk W9 (N + 1) #[.int .i64 0, .int .i64 0, .int .i64 0, .int .i64 0, .int .i64 0] 54 from (hfS.block _ HA.out.lt (by have hx0 := HXPHK.out; have hx1 := HXPHA.out; simp; try omega)).trans HA.out)
        replace HVA := Lib.hid (HVA.out.fr hfS (by have := FHVA.out; omega))
        replace HVB := Lib.hid (HVB.out.fr hfS (by have := FHVB.out; omega))
        replace HFM := Lib.hid (Nat.le_trans HFM.out hfS.size)
        replace HP := Lib.hid (show Blk W9 P #[.int .i64 x.tick, .int .i64 x.tenant, .int .i64 x.rate, .int .i64 x.burst] 87 from hkS)
        clear hWS hLS hkS hfS
        go_wp2_with fail
        go_roundw
        case rel => exact ⟨k + 1, oa, ob, by have := HLT.out; omega, by go_num, by first | (rw [HFS2.out]) | rfl, by rw [HLOF.out]; exact HVA.out, by rw [HGRF.out]; exact HVB.out, HDIS.out, HK.out, HA.out, by rw [← HOW2.out]; exact HP.out, HB.out, HFM.out⟩
        case measure => (have h8 := HLT.out; first | (simp [intOf]; done) | (simp [intOf]; omega))
      · skip
        have l1 : decide (x.tenant < tenant) = false := decide_eq_false (by omega)
        have l2 : decide (tenant < x.tenant) = true := decide_eq_true (by omega)
        have l3 : (x.tenant == tenant) = false := by simp; omega
        have HLOF : Hid ((t.take (k + 1)).filter (fun f => decide (f.tenant < tenant)) = (t.take k).filter (fun f => decide (f.tenant < tenant))) := Lib.hid (by rw [HTK.out, List.filter_append, List.filter_cons_of_neg (by simp; omega)]; simp)
        have HGRF : Hid ((t.take (k + 1)).filter (fun f => decide (tenant < f.tenant)) = (t.take k).filter (fun f => decide (tenant < f.tenant)) ++ [x]) := Lib.hid (by rw [HTK.out, List.filter_append, List.filter_cons_of_pos (by simp; omega)]; rfl)
        have HOW2 : Hid (own = ownF (t.take (k + 1)) tenant) := Lib.hid (by rw [HOWN.out]; unfold ownF; rw [HTK.out, List.find?_append, List.find?_cons_of_neg (by simp; omega)]; simp)
        have HFS2 : Hid (((t.take (k + 1)).find? (fun f => decide (f.tenant = tenant))).isSome = fs) := Lib.hid (by rw [HFS.out, HTK.out, List.find?_append, List.find?_cons_of_neg (by simp; omega)]; simp)
        clear c1
        have qK0 : wr.cell? ⟨N, 0, none⟩ = some (.int .i8 kind) := cell_at HK.out 0
        have qK1 : wr.cell? ⟨N, 1, none⟩ = some (.int .i64 client) := cell_at HK.out 1
        have qK2 : wr.cell? ⟨N, 2, none⟩ = some (.int .i64 number) := cell_at HK.out 2
        have qK3 : wr.cell? ⟨N, 3, none⟩ = some (.int .i64 tenant) := cell_at HK.out 3
        have qK4 : wr.cell? ⟨N, 4, none⟩ = some (.int .i64 crate) := cell_at HK.out 4
        have qK5 : wr.cell? ⟨N, 5, none⟩ = some (.int .i64 cburst) := cell_at HK.out 5
        have qK6 : wr.cell? ⟨N, 6, none⟩ = some (.int .i64 shaper) := cell_at HK.out 6
        have qK7 : wr.cell? ⟨N, 7, none⟩ = some (.int .i64 epoch) := cell_at HK.out 7
        have qK8 : wr.cell? ⟨N, 8, none⟩ = some (.int .i64 clease) := cell_at HK.out 8
        have qK9 : wr.cell? ⟨N, 9, none⟩ = some (.int .i64 csize) := cell_at HK.out 9
        have qK10 : wr.cell? ⟨N, 10, none⟩ = some (.int .i64 spent) := cell_at HK.out 10
        have qK11 : wr.cell? ⟨N, 11, none⟩ = some (.bool closed) := cell_at HK.out 11
        have qK12 : wr.cell? ⟨N, 12, none⟩ = some (.slice lsa lsn lsc) := cell_at HK.out 12
        have qKz : ∀ j, wr.frozen? ⟨N, j, none⟩ = false := fun j => free_at HK.out j
        have qKl : N < wr.heap.size := HK.out.lt
        go_wp2_with fail
        (refine wp_region_quiet_lit (by kernel_rfl) (by kernel_rfl) ?_; (repeat (first | go_big_quiet_step (fail) | (refine BigFrame.wpQuiet_skip (by rfl) ?_; try simp only [Act.put, List.setIfInBounds_toArray, List.set_cons_zero, List.set_cons_succ]))); refine wpQuiet_nil ?_; intro _ hw9; obtain ⟨nq, hw8⟩ := hw9; subst hw8)
        clear y0 y1 y2 y3 qK0 qK1 qK2 qK3 qK4 qK5 qK6 qK7 qK8 qK9 qK10 qK11 qK12 qKz qKl
        obtain ⟨W6, hWn⟩ : ∃ X, X = wr.drewN nq := ⟨_, rfl⟩
        rw [← hWn]
        have hB : Below wr.heap.size wr W6 := by rw [hWn]; exact dN _ _
        clear hWn
        replace HB := Lib.hid (HB.out.trans (hB.mono HB.out.size))
        replace HT := Lib.hid (HT0.out.below HB.out)
        replace HK := Lib.hid (HK.out.step hB)
        replace HA := Lib.hid (HA.out.step hB)
        replace HP := Lib.hid (HP.out.step hB)
        replace HVA := Lib.hid (HVA.out.step hB)
        replace HVB := Lib.hid (HVB.out.step hB)
        replace HFM := Lib.hid (Nat.le_trans HFM.out hB.size)
        clear hB
        obtain ⟨g2, o2, x2, ea, g12, hx2, y0, y1, y2, y3⟩ := HT.out.at k HLT.out
        obtain ⟨rfl, rfl⟩ : g = g2 ∧ o = o2 := by injection ea with e; injection e with e1 e2; exact ⟨e1, e2⟩
        obtain rfl : x = x2 := (Option.some.inj (hx2.symm.trans HX.out)).symm
        clear ea hx2
        have qK0 : W6.cell? ⟨N, 0, none⟩ = some (.int .i8 kind) := cell_at HK.out 0
        have qK1 : W6.cell? ⟨N, 1, none⟩ = some (.int .i64 client) := cell_at HK.out 1
        have qK2 : W6.cell? ⟨N, 2, none⟩ = some (.int .i64 number) := cell_at HK.out 2
        have qK3 : W6.cell? ⟨N, 3, none⟩ = some (.int .i64 tenant) := cell_at HK.out 3
        have qK4 : W6.cell? ⟨N, 4, none⟩ = some (.int .i64 crate) := cell_at HK.out 4
        have qK5 : W6.cell? ⟨N, 5, none⟩ = some (.int .i64 cburst) := cell_at HK.out 5
        have qK6 : W6.cell? ⟨N, 6, none⟩ = some (.int .i64 shaper) := cell_at HK.out 6
        have qK7 : W6.cell? ⟨N, 7, none⟩ = some (.int .i64 epoch) := cell_at HK.out 7
        have qK8 : W6.cell? ⟨N, 8, none⟩ = some (.int .i64 clease) := cell_at HK.out 8
        have qK9 : W6.cell? ⟨N, 9, none⟩ = some (.int .i64 csize) := cell_at HK.out 9
        have qK10 : W6.cell? ⟨N, 10, none⟩ = some (.int .i64 spent) := cell_at HK.out 10
        have qK11 : W6.cell? ⟨N, 11, none⟩ = some (.bool closed) := cell_at HK.out 11
        have qK12 : W6.cell? ⟨N, 12, none⟩ = some (.slice lsa lsn lsc) := cell_at HK.out 12
        have qKz : ∀ j, W6.frozen? ⟨N, j, none⟩ = false := fun j => free_at HK.out j
        have qKl : N < W6.heap.size := HK.out.lt
        go_wp2_with fail
        (refine wp_region_quiet_lit (by kernel_rfl) (by kernel_rfl) ?_; (repeat (first | go_big_quiet_step (fail) | (refine BigFrame.wpQuiet_skip (by rfl) ?_; try simp only [Act.put, List.setIfInBounds_toArray, List.set_cons_zero, List.set_cons_succ]))); refine wpQuiet_nil ?_; intro _ hw9; obtain ⟨nq, hw8⟩ := hw9; subst hw8)
        clear y0 y1 y2 y3 qK0 qK1 qK2 qK3 qK4 qK5 qK6 qK7 qK8 qK9 qK10 qK11 qK12 qKz qKl
        obtain ⟨W7, hWn⟩ : ∃ X, X = W6.drewN nq := ⟨_, rfl⟩
        rw [← hWn]
        have hB : Below W6.heap.size W6 W7 := by rw [hWn]; exact dN _ _
        clear hWn
        replace HB := Lib.hid (HB.out.trans (hB.mono HB.out.size))
        replace HT := Lib.hid (HT0.out.below HB.out)
        replace HK := Lib.hid (HK.out.step hB)
        replace HA := Lib.hid (HA.out.step hB)
        replace HP := Lib.hid (HP.out.step hB)
        replace HVA := Lib.hid (HVA.out.step hB)
        replace HVB := Lib.hid (HVB.out.step hB)
        replace HFM := Lib.hid (Nat.le_trans HFM.out hB.size)
        clear hB
        obtain ⟨g2, o2, x2, ea, g12, hx2, y0, y1, y2, y3⟩ := HT.out.at k HLT.out
        obtain ⟨rfl, rfl⟩ : g = g2 ∧ o = o2 := by injection ea with e; injection e with e1 e2; exact ⟨e1, e2⟩
        obtain rfl : x = x2 := (Option.some.inj (hx2.symm.trans HX.out)).symm
        clear ea hx2
        have hB9 : Below W7.heap.size W7 (W7.alloc (.cells #[.int .i64 x.tick, .int .i64 x.tenant, .int .i64 x.rate, .int .i64 x.burst] 87)) := (Below.refl _ _).alloc (Nat.le_refl _) _
        obtain ⟨v3, g3, W8, hrun, hio, hgr, hwh, hBM⟩ := fc_push (ty := 48) (b := W7.heap.size) (x := x) (HVB.out.step hB9) (blk_new _ _ _) HXOK.out (Nat.le_trans HFM.out hB9.size) (by have := HVB.out; have hq := List.length_filter_le (fun f => decide (tenant < f.tenant)) (t.take k); have hq2 := List.length_take (i := k) (l := t); have := HL.out; omega)
        have HRUN := Lib.hid hrun
        have hnew : ∀ g, oa = some g → g3 ≠ g := fun g e h => by
          subst h
          rcases hwh with h1 | h1
          · exact HDIS.out g3 e h1
          · have := (HVA.out.1.congr (w' := W7) fun _ _ => rfl)
            have h2 : g3 < W7.heap.size := by subst e; exact HVA.out.1.lt
            rw [h1] at h2
            simp at h2
            omega
        have hoth := (HVA.out.step hB9).grown hgr (fun g e => by exact fun h => HDIS.out g e h)
        have HO3 := Lib.hid hio
        have HOTH := Lib.hid hoth
        have HNEW := Lib.hid hnew
        replace HB := Lib.hid ((HB.out.alloc HB.out.size _).trans (hBM.mono HLOM.out))
        replace HFM := Lib.hid (Nat.le_trans HFM.out (Nat.le_trans hB9.size hBM.size))
        replace HK := Lib.hid ((HK.out.step hB9).stepM hBM HXMHK.out)
        replace HA := Lib.hid ((HA.out.step hB9).stepM hBM HXMHA.out)
        replace HP := Lib.hid ((HP.out.step hB9).stepM hBM HXMHP.out)
        clear hB9 hrun hio hgr hwh hBM hnew hoth HVA HVB HT
        have HVB := HO3
        have HVA := HOTH
        have HT := Lib.hid (HT0.out.below HB.out)
        clear HO3 HOTH
        go_upto_region 13 with (at_builtin; refine Lib.wpList_append_run _ rfl (.tmp 52) (.tmp 57) 48 48 rfl _ _ rfl rfl _ _ HRUN.out ?_)
        clear HRUN
        obtain ⟨g2, o2, x2, ea, g12, hx2, y0, y1, y2, y3⟩ := HT.out.at k HLT.out
        obtain ⟨rfl, rfl⟩ : g = g2 ∧ o = o2 := by injection ea with e; injection e with e1 e2; exact ⟨e1, e2⟩
        obtain rfl : x = x2 := (Option.some.inj (hx2.symm.trans HX.out)).symm
        clear ea hx2
        have qK0 : W8.cell? ⟨N, 0, none⟩ = some (.int .i8 kind) := cell_at HK.out 0
        have qK1 : W8.cell? ⟨N, 1, none⟩ = some (.int .i64 client) := cell_at HK.out 1
        have qK2 : W8.cell? ⟨N, 2, none⟩ = some (.int .i64 number) := cell_at HK.out 2
        have qK3 : W8.cell? ⟨N, 3, none⟩ = some (.int .i64 tenant) := cell_at HK.out 3
        have qK4 : W8.cell? ⟨N, 4, none⟩ = some (.int .i64 crate) := cell_at HK.out 4
        have qK5 : W8.cell? ⟨N, 5, none⟩ = some (.int .i64 cburst) := cell_at HK.out 5
        have qK6 : W8.cell? ⟨N, 6, none⟩ = some (.int .i64 shaper) := cell_at HK.out 6
        have qK7 : W8.cell? ⟨N, 7, none⟩ = some (.int .i64 epoch) := cell_at HK.out 7
        have qK8 : W8.cell? ⟨N, 8, none⟩ = some (.int .i64 clease) := cell_at HK.out 8
        have qK9 : W8.cell? ⟨N, 9, none⟩ = some (.int .i64 csize) := cell_at HK.out 9
        have qK10 : W8.cell? ⟨N, 10, none⟩ = some (.int .i64 spent) := cell_at HK.out 10
        have qK11 : W8.cell? ⟨N, 11, none⟩ = some (.bool closed) := cell_at HK.out 11
        have qK12 : W8.cell? ⟨N, 12, none⟩ = some (.slice lsa lsn lsc) := cell_at HK.out 12
        have qKz : ∀ j, W8.frozen? ⟨N, j, none⟩ = false := fun j => free_at HK.out j
        have qKl : N < W8.heap.size := HK.out.lt
        go_wp2_with fail
        (refine wp_region_quiet_lit (by kernel_rfl) (by kernel_rfl) ?_; (repeat (first | go_big_quiet_step (fail) | (refine BigFrame.wpQuiet_skip (by rfl) ?_; try simp only [Act.put, List.setIfInBounds_toArray, List.set_cons_zero, List.set_cons_succ]))); refine wpQuiet_nil ?_; intro _ hw9; obtain ⟨nq, hw8⟩ := hw9; subst hw8)
        clear y0 y1 y2 y3 qK0 qK1 qK2 qK3 qK4 qK5 qK6 qK7 qK8 qK9 qK10 qK11 qK12 qKz qKl
        obtain ⟨W9, hWn⟩ : ∃ X, X = W8.drewN nq := ⟨_, rfl⟩
        rw [← hWn]
        have hB : Below W8.heap.size W8 W9 := by rw [hWn]; exact dN _ _
        clear hWn
        replace HB := Lib.hid (HB.out.trans (hB.mono HB.out.size))
        replace HT := Lib.hid (HT0.out.below HB.out)
        replace HK := Lib.hid (HK.out.step hB)
        replace HA := Lib.hid (HA.out.step hB)
        replace HP := Lib.hid (HP.out.step hB)
        replace HVA := Lib.hid (HVA.out.step hB)
        replace HVB := Lib.hid (HVB.out.step hB)
        replace HFM := Lib.hid (Nat.le_trans HFM.out hB.size)
        clear hB
        go_wp2_with fail
        go_roundw
        case rel => exact ⟨k + 1, oa, some g3, by have := HLT.out; omega, by go_num, by first | (rw [HFS2.out]) | rfl, by rw [HLOF.out]; exact HVA.out, by rw [HGRF.out]; exact HVB.out, (fun g e h => by obtain rfl := Option.some.inj h; exact HNEW.out g3 e rfl), HK.out, HA.out, by rw [← HOW2.out]; exact HP.out, HB.out, HFM.out⟩
        case measure => (have h8 := HLT.out; first | (simp [intOf]; done) | (simp [intOf]; omega))
    · skip
      obtain rfl : k = n := by omega
      rw [HN.out, List.take_length] at HVA HVB HFS HOWN
      by_cases k1 : kind = 1
      · skip
        have HOK1 : Hid ((tblB 0 t && cmdB 1 tenant) = true) := Lib.hid (by rw [← k1]; exact HOK.out)
        have HD1 : Hid (D = doF t 1 tenant crate cburst) := Lib.hid (by rw [← k1]; exact HD.out)
        have d1 : (kind == 1) = true := by simpa using k1
        clear k1
        have qK0 : wr.cell? ⟨N, 0, none⟩ = some (.int .i8 kind) := cell_at HK.out 0
        have qK1 : wr.cell? ⟨N, 1, none⟩ = some (.int .i64 client) := cell_at HK.out 1
        have qK2 : wr.cell? ⟨N, 2, none⟩ = some (.int .i64 number) := cell_at HK.out 2
        have qK3 : wr.cell? ⟨N, 3, none⟩ = some (.int .i64 tenant) := cell_at HK.out 3
        have qK4 : wr.cell? ⟨N, 4, none⟩ = some (.int .i64 crate) := cell_at HK.out 4
        have qK5 : wr.cell? ⟨N, 5, none⟩ = some (.int .i64 cburst) := cell_at HK.out 5
        have qK6 : wr.cell? ⟨N, 6, none⟩ = some (.int .i64 shaper) := cell_at HK.out 6
        have qK7 : wr.cell? ⟨N, 7, none⟩ = some (.int .i64 epoch) := cell_at HK.out 7
        have qK8 : wr.cell? ⟨N, 8, none⟩ = some (.int .i64 clease) := cell_at HK.out 8
        have qK9 : wr.cell? ⟨N, 9, none⟩ = some (.int .i64 csize) := cell_at HK.out 9
        have qK10 : wr.cell? ⟨N, 10, none⟩ = some (.int .i64 spent) := cell_at HK.out 10
        have qK11 : wr.cell? ⟨N, 11, none⟩ = some (.bool closed) := cell_at HK.out 11
        have qK12 : wr.cell? ⟨N, 12, none⟩ = some (.slice lsa lsn lsc) := cell_at HK.out 12
        have qKz : ∀ j, wr.frozen? ⟨N, j, none⟩ = false := fun j => free_at HK.out j
        have qKl : N < wr.heap.size := HK.out.lt
        go_wp2_with fail
        go_at_call 51
        go_fit (HPM.out _)
        rintro e w' ⟨rfl, rfl⟩
        cases B3
        · skip
          rw [do_rate HOK1.out HB3.out.symm] at HD1
          have hD := HD1.out
          subst hD
          clear HVA HVB
          have HF0 := Lib.hid HB.out.size
          have HX1 := Lib.hid HA.out.lt
          clear qK0 qK1 qK2 qK3 qK4 qK5 qK6 qK7 qK8 qK9 qK10 qK11 qK12 qKz qKl
          have qK0 : wr.cell? ⟨N, 0, none⟩ = some (.int .i8 kind) := cell_at HK.out 0
          have qK1 : wr.cell? ⟨N, 1, none⟩ = some (.int .i64 client) := cell_at HK.out 1
          have qK2 : wr.cell? ⟨N, 2, none⟩ = some (.int .i64 number) := cell_at HK.out 2
          have qK3 : wr.cell? ⟨N, 3, none⟩ = some (.int .i64 tenant) := cell_at HK.out 3
          have qK4 : wr.cell? ⟨N, 4, none⟩ = some (.int .i64 crate) := cell_at HK.out 4
          have qK5 : wr.cell? ⟨N, 5, none⟩ = some (.int .i64 cburst) := cell_at HK.out 5
          have qK6 : wr.cell? ⟨N, 6, none⟩ = some (.int .i64 shaper) := cell_at HK.out 6
          have qK7 : wr.cell? ⟨N, 7, none⟩ = some (.int .i64 epoch) := cell_at HK.out 7
          have qK8 : wr.cell? ⟨N, 8, none⟩ = some (.int .i64 clease) := cell_at HK.out 8
          have qK9 : wr.cell? ⟨N, 9, none⟩ = some (.int .i64 csize) := cell_at HK.out 9
          have qK10 : wr.cell? ⟨N, 10, none⟩ = some (.int .i64 spent) := cell_at HK.out 10
          have qK11 : wr.cell? ⟨N, 11, none⟩ = some (.bool closed) := cell_at HK.out 11
          have qK12 : wr.cell? ⟨N, 12, none⟩ = some (.slice lsa lsn lsc) := cell_at HK.out 12
          have qKz : ∀ j, wr.frozen? ⟨N, j, none⟩ = false := fun j => free_at HK.out j
          have qKl : N < wr.heap.size := HK.out.lt
          have qA0 : wr.cell? ⟨(N + 1), 0, none⟩ = some (.int .i64 0) := cell_at HA.out 0
          have qA1 : wr.cell? ⟨(N + 1), 1, none⟩ = some (.int .i64 0) := cell_at HA.out 1
          have qA2 : wr.cell? ⟨(N + 1), 2, none⟩ = some (.int .i64 0) := cell_at HA.out 2
          have qA3 : wr.cell? ⟨(N + 1), 3, none⟩ = some (.int .i64 0) := cell_at HA.out 3
          have qA4 : wr.cell? ⟨(N + 1), 4, none⟩ = some (.int .i64 0) := cell_at HA.out 4
          have qAz : ∀ j, wr.frozen? ⟨(N + 1), j, none⟩ = false := fun j => free_at HA.out j
          have qAl : (N + 1) < wr.heap.size := HA.out.lt
          go_wp2_with fail
          go_at_call 50
          go_fit (HCO.out _ HT.out)
          rintro e W6 ⟨v1, ob1, rfl, hv1, hB⟩
          clear qK0 qK1 qK2 qK3 qK4 qK5 qK6 qK7 qK8 qK9 qK10 qK11 qK12 qKz qKl qA0 qA1 qA2 qA3 qA4 qAz qAl
          replace HB := Lib.hid (HB.out.trans (hB.mono HB.out.size))
          replace HT := Lib.hid (HT0.out.below HB.out)
          replace HK := Lib.hid (HK.out.step hB)
          replace HA := Lib.hid (HA.out.step hB)
          replace HP := Lib.hid (HP.out.step hB)
          replace HFM := Lib.hid (Nat.le_trans HFM.out hB.size)
          clear hB
          have HO := Lib.hid (hv1.le HF0.out)
          have HX2 := Lib.hid (fun g (e : ob1 = some g) => Nat.lt_of_lt_of_le HX1.out (hv1.2.2 g e))
          clear hv1
          have qA0 : W6.cell? ⟨(N + 1), 0, none⟩ = some (.int .i64 0) := cell_at HA.out 0
          have qA1 : W6.cell? ⟨(N + 1), 1, none⟩ = some (.int .i64 0) := cell_at HA.out 1
          have qA2 : W6.cell? ⟨(N + 1), 2, none⟩ = some (.int .i64 0) := cell_at HA.out 2
          have qA3 : W6.cell? ⟨(N + 1), 3, none⟩ = some (.int .i64 0) := cell_at HA.out 3
          have qA4 : W6.cell? ⟨(N + 1), 4, none⟩ = some (.int .i64 0) := cell_at HA.out 4
          have qAz : ∀ j, W6.frozen? ⟨(N + 1), j, none⟩ = false := fun j => free_at HA.out j
          have qAl : (N + 1) < W6.heap.size := HA.out.lt
          go_wp2_with fail
          clear qA0 qA1 qA2 qA3 qA4 qAz qAl
          obtain ⟨LS, hLS⟩ : ∃ L : List Value, L = [.int .i64 160, .int .i64 0, .int .i64 0, .int .i64 0, .int .i64 0] := ⟨_, rfl⟩
          obtain ⟨W7, hWS⟩ : ∃ WS, WS = W6.setCells (N + 1) 0 LS := ⟨_, rfl⟩
          have hch := hWS
          rw [hLS] at hch
          simp only [World.setCells, Nat.zero_add, Nat.reduceAdd] at hch
          rw [← hch]
          clear hch
          have hkS := stC_blk HA.out LS (by rw [hLS]; rfl)
          have hfS := stC_fr (N + 1) LS 0 W6
          rw [← hWS] at hkS hfS
          rw [hLS] at hkS
          replace HB := Lib.hid (HB.out.trans (hfS.below HB.out.size (by have := HLON.out; simp; try omega)))
          replace HK := Lib.hid (show Blk W7 N #[.int .i8 kind, .int .i64 client, .int .i64 number, .int .i64 tenant, .int .i64 crate, .int .i64 cburst, .int .i64 shaper, .int .i64 epoch, .int .i64 clease, .int .i64 csize, .int .i64 spent, .bool closed, .slice lsa lsn lsc] 51 from (hfS.block _ HK.out.lt (by have hx0 := HXPHK.out; have hx1 := HXPHA.out; simp; try omega)).trans HK.out)
          replace HP := Lib.hid (show Blk W7 P #[.int .i64 own.tick, .int .i64 own.tenant, .int .i64 own.rate, .int .i64 own.burst] 87 from (hfS.block _ HP.out.lt (by have hx0 := HXPHK.out; have hx1 := HXPHA.out; simp; try omega)).trans HP.out)
          replace HFM := Lib.hid (Nat.le_trans HFM.out hfS.size)
          replace HO := Lib.hid (HO.out.frT HA.out hfS (by decide))
          replace HA := Lib.hid (show Blk W7 (N + 1) #[.int .i64 160, .int .i64 0, .int .i64 0, .int .i64 0, .int .i64 0] 54 from hkS)
          clear hWS hLS hkS hfS
          have qA0 : W7.cell? ⟨(N + 1), 0, none⟩ = some (.int .i64 160) := cell_at HA.out 0
          have qA1 : W7.cell? ⟨(N + 1), 1, none⟩ = some (.int .i64 0) := cell_at HA.out 1
          have qA2 : W7.cell? ⟨(N + 1), 2, none⟩ = some (.int .i64 0) := cell_at HA.out 2
          have qA3 : W7.cell? ⟨(N + 1), 3, none⟩ = some (.int .i64 0) := cell_at HA.out 3
          have qA4 : W7.cell? ⟨(N + 1), 4, none⟩ = some (.int .i64 0) := cell_at HA.out 4
          have qAz : ∀ j, W7.frozen? ⟨(N + 1), j, none⟩ = false := fun j => free_at HA.out j
          have qAl : (N + 1) < W7.heap.size := HA.out.lt
          exact bodyPost_ret (v := .tuple #[v1, .agg #[.int .i64 160, .int .i64 0, .int .i64 0, .int .i64 0, .int .i64 0]]) (by simp [results, Try.results21, go_sem, qA0, qA1, qA2, qA3, qA4]) rfl ⟨_, rfl, ⟨_, HO.out⟩, HB.out⟩
        · skip
          rw [do_put HOK1.out HB3.out.symm] at HD1
          have hD := HD1.out
          subst hD
          have hrb : -9223372036854775808 ≤ crate ∧ crate ≤ 9223372036854775807 ∧ -9223372036854775808 ≤ cburst ∧ cburst ≤ 9223372036854775807 := by have := HB3.out.symm; simp only [mayR, Bool.and_eq_true, decide_eq_true_eq] at this; omega
          have HEL : Hid ((⟨0, tenant, crate, cburst⟩ : FcE).ok) := Lib.hid (by have := HTN.out; exact ⟨by simp, by simp; omega, by simp; omega, by simp; omega⟩)
          clear hrb
          clear qK0 qK1 qK2 qK3 qK4 qK5 qK6 qK7 qK8 qK9 qK10 qK11 qK12 qKz qKl
          have qK0 : wr.cell? ⟨N, 0, none⟩ = some (.int .i8 kind) := cell_at HK.out 0
          have qK1 : wr.cell? ⟨N, 1, none⟩ = some (.int .i64 client) := cell_at HK.out 1
          have qK2 : wr.cell? ⟨N, 2, none⟩ = some (.int .i64 number) := cell_at HK.out 2
          have qK3 : wr.cell? ⟨N, 3, none⟩ = some (.int .i64 tenant) := cell_at HK.out 3
          have qK4 : wr.cell? ⟨N, 4, none⟩ = some (.int .i64 crate) := cell_at HK.out 4
          have qK5 : wr.cell? ⟨N, 5, none⟩ = some (.int .i64 cburst) := cell_at HK.out 5
          have qK6 : wr.cell? ⟨N, 6, none⟩ = some (.int .i64 shaper) := cell_at HK.out 6
          have qK7 : wr.cell? ⟨N, 7, none⟩ = some (.int .i64 epoch) := cell_at HK.out 7
          have qK8 : wr.cell? ⟨N, 8, none⟩ = some (.int .i64 clease) := cell_at HK.out 8
          have qK9 : wr.cell? ⟨N, 9, none⟩ = some (.int .i64 csize) := cell_at HK.out 9
          have qK10 : wr.cell? ⟨N, 10, none⟩ = some (.int .i64 spent) := cell_at HK.out 10
          have qK11 : wr.cell? ⟨N, 11, none⟩ = some (.bool closed) := cell_at HK.out 11
          have qK12 : wr.cell? ⟨N, 12, none⟩ = some (.slice lsa lsn lsc) := cell_at HK.out 12
          have qKz : ∀ j, wr.frozen? ⟨N, j, none⟩ = false := fun j => free_at HK.out j
          have qKl : N < wr.heap.size := HK.out.lt
          have hB9 : Below wr.heap.size wr (wr.alloc (.cells #[.int .i64 0, .int .i64 tenant, .int .i64 crate, .int .i64 cburst] 87)) := (Below.refl _ _).alloc (Nat.le_refl _) _
          obtain ⟨v3, g3, W6, hrun, hio, hgr, hwh, hBM⟩ := fc_push (ty := 48) (b := wr.heap.size) (x := ⟨0, tenant, crate, cburst⟩) (HVA.out.step hB9) (blk_new _ _ _) HEL.out (Nat.le_trans HFM.out hB9.size) (by have := HVA.out; have hq := List.length_filter_le (fun f => decide (f.tenant < tenant)) t; have := HL.out; omega)
          have HRUN := Lib.hid hrun
          have hnew : ∀ g, ob = some g → g3 ≠ g := fun g e h => by
            subst h
            rcases hwh with h1 | h1
            · exact HDIS.out g3 h1 e
            · have := (HVB.out.1.congr (w' := wr) fun _ _ => rfl)
              have h2 : g3 < wr.heap.size := by subst e; exact HVB.out.1.lt
              rw [h1] at h2
              simp at h2
              omega
          have hoth := (HVB.out.step hB9).grown hgr (fun g e => by exact fun h => HDIS.out g h e)
          have HO3 := Lib.hid hio
          have HOTH := Lib.hid hoth
          have HNEW := Lib.hid hnew
          replace HB := Lib.hid ((HB.out.alloc HB.out.size _).trans (hBM.mono HLOM.out))
          replace HFM := Lib.hid (Nat.le_trans HFM.out (Nat.le_trans hB9.size hBM.size))
          replace HK := Lib.hid ((HK.out.step hB9).stepM hBM HXMHK.out)
          replace HA := Lib.hid ((HA.out.step hB9).stepM hBM HXMHA.out)
          replace HP := Lib.hid ((HP.out.step hB9).stepM hBM HXMHP.out)
          clear hB9 hrun hio hgr hwh hBM hnew hoth HVA HVB HT
          have HVA := HO3
          have HVB := HOTH
          have HT := Lib.hid (HT0.out.below HB.out)
          clear HO3 HOTH
          go_upto_region 20 with (at_builtin; refine Lib.wpList_append_run _ rfl (.tmp 83) (.tmp 91) 48 48 rfl _ _ rfl rfl _ _ HRUN.out ?_)
          clear HRUN
          clear HT
          have HLA := Lib.hid (show (t.filter (fun f => decide (f.tenant < tenant)) ++ [(⟨0, tenant, crate, cburst⟩ : FcE)]).length + (t.filter (fun f => decide (tenant < f.tenant))).length ≤ 100000 by have h1 := List.length_filter_le (fun f => decide (f.tenant < tenant)) t; have h2 := List.length_filter_le (fun f => decide (tenant < f.tenant)) t; have := HL.out; rw [List.length_append, List.length_singleton]; omega)
          refine wp_region_held_drew (S := fun X => (X.cell? ⟨N, 0, none⟩ = some (.int .i8 kind) ∧ X.cell? ⟨N, 1, none⟩ = some (.int .i64 client) ∧ X.cell? ⟨N, 2, none⟩ = some (.int .i64 number) ∧ X.cell? ⟨N, 3, none⟩ = some (.int .i64 tenant) ∧ X.cell? ⟨N, 4, none⟩ = some (.int .i64 crate) ∧ X.cell? ⟨N, 5, none⟩ = some (.int .i64 cburst) ∧ X.cell? ⟨N, 6, none⟩ = some (.int .i64 shaper) ∧ X.cell? ⟨N, 7, none⟩ = some (.int .i64 epoch) ∧ X.cell? ⟨N, 8, none⟩ = some (.int .i64 clease) ∧ X.cell? ⟨N, 9, none⟩ = some (.int .i64 csize) ∧ X.cell? ⟨N, 10, none⟩ = some (.int .i64 spent) ∧ X.cell? ⟨N, 11, none⟩ = some (.bool closed) ∧ X.cell? ⟨N, 12, none⟩ = some (.slice lsa lsn lsc) ∧ N < X.heap.size)) (by kernel_rfl) ⟨cell_at HK.out 0, cell_at HK.out 1, cell_at HK.out 2, cell_at HK.out 3, cell_at HK.out 4, cell_at HK.out 5, cell_at HK.out 6, cell_at HK.out 7, cell_at HK.out 8, cell_at HK.out 9, cell_at HK.out 10, cell_at HK.out 11, cell_at HK.out 12, HK.out.lt⟩ (fun hHeld => ?_)
          ((refine wpAnyH_take (i := 0) (v := ?_) (by (simp only [List.getElem?_toArray, List.getElem?_cons_succ, List.getElem?_cons_zero]); rfl) (by kernel_rfl) (by kernel_rfl) (by kernel_rfl) (by exact fun _ _ _ h => h) (Or.inl ⟨by rfl, ?_⟩) (by assumption) ?_); rotate_left; focus (intro wS hSw; (try dsimp only at hSw); go_simp; first | done | with_reducible rfl); try simp only [Act.put, List.setIfInBounds_toArray, List.set_cons_zero, List.set_cons_succ])
          ((refine wpAnyH_take (i := 1) (v := ?_) (by (simp only [List.getElem?_toArray, List.getElem?_cons_succ, List.getElem?_cons_zero]); rfl) (by kernel_rfl) (by kernel_rfl) (by kernel_rfl) (by exact fun _ _ _ h => h) (Or.inl ⟨by rfl, ?_⟩) (by assumption) ?_); rotate_left; focus (intro wS hSw; (try dsimp only at hSw); go_simp; first | done | with_reducible rfl); try simp only [Act.put, List.setIfInBounds_toArray, List.set_cons_zero, List.set_cons_succ])
          ((refine wpAnyH_take (i := 3) (v := ?_) (by (simp only [List.getElem?_toArray, List.getElem?_cons_succ, List.getElem?_cons_zero]); rfl) (by kernel_rfl) (by kernel_rfl) (by kernel_rfl) (by exact fun _ _ _ h => h) (Or.inl ⟨by rfl, ?_⟩) (by assumption) ?_); rotate_left; focus (intro wS hSw; (try dsimp only at hSw); go_simp; first | done | with_reducible rfl); try simp only [Act.put, List.setIfInBounds_toArray, List.set_cons_zero, List.set_cons_succ])
          ((refine wpAnyH_take (i := 4) (v := ?_) (by (simp only [List.getElem?_toArray, List.getElem?_cons_succ, List.getElem?_cons_zero]); rfl) (by kernel_rfl) (by kernel_rfl) (by kernel_rfl) (by exact fun _ _ _ h => h) (Or.inl ⟨by rfl, ?_⟩) (by assumption) ?_); rotate_left; focus (intro wS hSw; (try dsimp only at hSw); go_simp; first | done | with_reducible rfl); try simp only [Act.put, List.setIfInBounds_toArray, List.set_cons_zero, List.set_cons_succ])
          ((refine wpAnyH_take (i := 5) (v := ?_) (by (simp only [List.getElem?_toArray, List.getElem?_cons_succ, List.getElem?_cons_zero]); rfl) (by kernel_rfl) (by kernel_rfl) (by kernel_rfl) (by exact fun _ _ _ h => h) (Or.inl ⟨by rfl, ?_⟩) (by assumption) ?_); rotate_left; focus (intro wS hSw; (try dsimp only at hSw); go_simp; first | done | with_reducible rfl); try simp only [Act.put, List.setIfInBounds_toArray, List.set_cons_zero, List.set_cons_succ])
          ((refine wpAnyH_take (i := 6) (v := ?_) (by (simp only [List.getElem?_toArray, List.getElem?_cons_succ, List.getElem?_cons_zero]); rfl) (by kernel_rfl) (by kernel_rfl) (by kernel_rfl) (by exact fun _ _ _ h => h) (Or.inl ⟨by rfl, ?_⟩) (by assumption) ?_); rotate_left; focus (intro wS hSw; (try dsimp only at hSw); go_simp; first | done | with_reducible rfl); try simp only [Act.put, List.setIfInBounds_toArray, List.set_cons_zero, List.set_cons_succ])
          ((refine wpAnyH_take (i := 7) (v := ?_) (by (simp only [List.getElem?_toArray, List.getElem?_cons_succ, List.getElem?_cons_zero]); rfl) (by kernel_rfl) (by kernel_rfl) (by kernel_rfl) (by exact fun _ _ _ h => h) (Or.inl ⟨by rfl, ?_⟩) (by assumption) ?_); rotate_left; focus (intro wS hSw; (try dsimp only at hSw); go_simp; first | done | with_reducible rfl); try simp only [Act.put, List.setIfInBounds_toArray, List.set_cons_zero, List.set_cons_succ])
          refine wpAnyH_ready (rs := [2]) (by kernel_rfl) (by simp) ?_
          refine AllReadyH.cons (by (simp only [List.getElem?_toArray, List.getElem?_cons_succ, List.getElem?_cons_zero]); rfl) (fun K hK => ?_) AllReadyH.nil
          rw [if_pos (by rfl)]
          obtain ⟨v7, ob7, W7, hrun, hor, hBM⟩ := (fc_app (W := W6.drew) (ty := 48) (HVA.out.step (Below.refl _ _).drew) (HVB.out.step (Below.refl _ _).drew).v HFM.out HLA.out)
          refine op_append_run (.tmp 93) (.tmp 94) 48 (by kernel_rfl) (by kernel_rfl) (by kernel_rfl) hrun ?_
          replace hBM := below_undrewM hBM
          replace HB := Lib.hid (HB.out.trans (hBM.mono (by have hq := HLOM.out; omega)))
          replace HK := Lib.hid (HK.out.stepM hBM (by have hq := HXMHK.out; omega))
          replace HA := Lib.hid (HA.out.stepM hBM (by have hq := HXMHA.out; omega))
          replace HP := Lib.hid (HP.out.stepM hBM (by have hq := HXMHP.out; omega))
          replace HFM := Lib.hid (Nat.le_trans HFM.out hBM.size)
          have HOR := Lib.hid hor
          refine hK.out _ _ ⟨cell_at HK.out 0, cell_at HK.out 1, cell_at HK.out 2, cell_at HK.out 3, cell_at HK.out 4, cell_at HK.out 5, cell_at HK.out 6, cell_at HK.out 7, cell_at HK.out 8, cell_at HK.out 9, cell_at HK.out 10, cell_at HK.out 11, cell_at HK.out 12, HK.out.lt⟩ (fun hHeld => ?_)
          clear hK K hrun hor hBM
          try simp only [Act.put, List.setIfInBounds_toArray, List.set_cons_zero, List.set_cons_succ]
          ((refine wpAnyH_take (i := 8) (v := ?_) (by (simp only [List.getElem?_toArray, List.getElem?_cons_succ, List.getElem?_cons_zero]); rfl) (by kernel_rfl) (by kernel_rfl) (by kernel_rfl) (by exact fun _ _ _ h => h) (Or.inl ⟨by rfl, ?_⟩) (by assumption) ?_); rotate_left; focus (intro wS hSw; (try dsimp only at hSw); go_simp; first | done | with_reducible rfl); try simp only [Act.put, List.setIfInBounds_toArray, List.set_cons_zero, List.set_cons_succ])
          refine wpAnyH_ready (rs := [9]) (by kernel_rfl) (by simp) ?_
          refine AllReadyH.cons (by (simp only [List.getElem?_toArray, List.getElem?_cons_succ, List.getElem?_cons_zero]); rfl) (fun K hK => ?_) AllReadyH.nil
          have qA0 : W7.cell? ⟨(N + 1), 0, none⟩ = some (.int .i64 0) := cell_at HA.out 0
          have qA1 : W7.cell? ⟨(N + 1), 1, none⟩ = some (.int .i64 0) := cell_at HA.out 1
          have qA2 : W7.cell? ⟨(N + 1), 2, none⟩ = some (.int .i64 0) := cell_at HA.out 2
          have qA3 : W7.cell? ⟨(N + 1), 3, none⟩ = some (.int .i64 0) := cell_at HA.out 3
          have qA4 : W7.cell? ⟨(N + 1), 4, none⟩ = some (.int .i64 0) := cell_at HA.out 4
          have qAz : ∀ j, W7.frozen? ⟨(N + 1), j, none⟩ = false := fun j => free_at HA.out j
          have qAl : (N + 1) < W7.heap.size := HA.out.lt
          go_simp
          clear qA0 qA1 qA2 qA3 qA4 qAz qAl
          obtain ⟨LS, hLS⟩ : ∃ L : List Value, L = [.int .i64 0, .int .i64 crate, .int .i64 cburst, .int .i64 0, .int .i64 0] := ⟨_, rfl⟩
          obtain ⟨W8, hWS⟩ : ∃ WS, WS = W7.setCells (N + 1) 0 LS := ⟨_, rfl⟩
          have hch := hWS
          rw [hLS] at hch
          simp only [World.setCells, Nat.zero_add, Nat.reduceAdd] at hch
          rw [← hch]
          clear hch
          have hkS := stC_blk HA.out LS (by rw [hLS]; rfl)
          have hfS := stC_fr (N + 1) LS 0 W7
          rw [← hWS] at hkS hfS
          rw [hLS] at hkS
          replace HB := Lib.hid (HB.out.trans (hfS.below HB.out.size (by have := HLON.out; simp; try omega)))
          replace HK := Lib.hid (show Blk W8 N #[.int .i8 kind, .int .i64 client, .int .i64 number, .int .i64 tenant, .int .i64 crate, .int .i64 cburst, .int .i64 shaper, .int .i64 epoch, .int .i64 clease, .int .i64 csize, .int .i64 spent, .bool closed, .slice lsa lsn lsc] 51 from (hfS.block _ HK.out.lt (by have hx0 := HXPHK.out; have hx1 := HXPHA.out; simp; try omega)).trans HK.out)
          replace HP := Lib.hid (show Blk W8 P #[.int .i64 own.tick, .int .i64 own.tenant, .int .i64 own.rate, .int .i64 own.burst] 87 from (hfS.block _ HP.out.lt (by have hx0 := HXPHK.out; have hx1 := HXPHA.out; simp; try omega)).trans HP.out)
          replace HFM := Lib.hid (Nat.le_trans HFM.out hfS.size)
          replace HOR := Lib.hid (HOR.out.frT HA.out hfS (by decide))
          replace HA := Lib.hid (show Blk W8 (N + 1) #[.int .i64 0, .int .i64 crate, .int .i64 cburst, .int .i64 0, .int .i64 0] 54 from hkS)
          clear hWS hLS hkS hfS
          refine hK.out _ _ ⟨cell_at HK.out 0, cell_at HK.out 1, cell_at HK.out 2, cell_at HK.out 3, cell_at HK.out 4, cell_at HK.out 5, cell_at HK.out 6, cell_at HK.out 7, cell_at HK.out 8, cell_at HK.out 9, cell_at HK.out 10, cell_at HK.out 11, cell_at HK.out 12, HK.out.lt⟩ (fun hHeld => ?_)
          clear hK K
          try simp only [Act.put, List.setIfInBounds_toArray, List.set_cons_zero, List.set_cons_succ]
          refine wpAnyH_done (by kernel_rfl) ?_ _
          try simp only [Act.put, List.setIfInBounds_toArray, List.set_cons_zero, List.set_cons_succ]
          go_wp2_with fail
          have qA0 : W8.cell? ⟨(N + 1), 0, none⟩ = some (.int .i64 0) := cell_at HA.out 0
          have qA1 : W8.cell? ⟨(N + 1), 1, none⟩ = some (.int .i64 crate) := cell_at HA.out 1
          have qA2 : W8.cell? ⟨(N + 1), 2, none⟩ = some (.int .i64 cburst) := cell_at HA.out 2
          have qA3 : W8.cell? ⟨(N + 1), 3, none⟩ = some (.int .i64 0) := cell_at HA.out 3
          have qA4 : W8.cell? ⟨(N + 1), 4, none⟩ = some (.int .i64 0) := cell_at HA.out 4
          have qAz : ∀ j, W8.frozen? ⟨(N + 1), j, none⟩ = false := fun j => free_at HA.out j
          have qAl : (N + 1) < W8.heap.size := HA.out.lt
          exact bodyPost_ret (v := .tuple #[v7, .agg #[.int .i64 0, .int .i64 crate, .int .i64 cburst, .int .i64 0, .int .i64 0]]) (by simp [results, Try.results21, go_sem, qA0, qA1, qA2, qA3, qA4]) rfl ⟨_, rfl, ⟨_, by have h9 := HOR.out.le HLOM.out; simpa using h9⟩, HB.out⟩
      have K1 := Lib.hid k1
      have d1 : (kind == 1) = false := by simpa using k1
      clear k1
      have HFS3 : Hid (fs = (t.find? (fun f => decide (f.tenant = tenant))).isSome) := HFS
      have HOW3 : Hid (own = (t.find? (fun f => decide (f.tenant = tenant))).getD zFc) := HOWN
      obtain ⟨T, hT⟩ : ∃ T, T = t.find? (fun f => decide (f.tenant = tenant)) := ⟨_, rfl⟩
      rw [← hT] at HFS3 HOW3
      have HTT := Lib.hid hT
      clear hT HFS HOWN
      cases T
      · skip
        have hf9 := HFS3.out
        rw [Option.isSome_none] at hf9
        subst hf9
        rw [do_none HOK.out K1.out HTT.out.symm] at HD
        have hD := HD.out
        subst hD
        clear HVA HVB
        have HF0 := Lib.hid HB.out.size
        have HX1 := Lib.hid HA.out.lt
        have qK0 : wr.cell? ⟨N, 0, none⟩ = some (.int .i8 kind) := cell_at HK.out 0
        have qK1 : wr.cell? ⟨N, 1, none⟩ = some (.int .i64 client) := cell_at HK.out 1
        have qK2 : wr.cell? ⟨N, 2, none⟩ = some (.int .i64 number) := cell_at HK.out 2
        have qK3 : wr.cell? ⟨N, 3, none⟩ = some (.int .i64 tenant) := cell_at HK.out 3
        have qK4 : wr.cell? ⟨N, 4, none⟩ = some (.int .i64 crate) := cell_at HK.out 4
        have qK5 : wr.cell? ⟨N, 5, none⟩ = some (.int .i64 cburst) := cell_at HK.out 5
        have qK6 : wr.cell? ⟨N, 6, none⟩ = some (.int .i64 shaper) := cell_at HK.out 6
        have qK7 : wr.cell? ⟨N, 7, none⟩ = some (.int .i64 epoch) := cell_at HK.out 7
        have qK8 : wr.cell? ⟨N, 8, none⟩ = some (.int .i64 clease) := cell_at HK.out 8
        have qK9 : wr.cell? ⟨N, 9, none⟩ = some (.int .i64 csize) := cell_at HK.out 9
        have qK10 : wr.cell? ⟨N, 10, none⟩ = some (.int .i64 spent) := cell_at HK.out 10
        have qK11 : wr.cell? ⟨N, 11, none⟩ = some (.bool closed) := cell_at HK.out 11
        have qK12 : wr.cell? ⟨N, 12, none⟩ = some (.slice lsa lsn lsc) := cell_at HK.out 12
        have qKz : ∀ j, wr.frozen? ⟨N, j, none⟩ = false := fun j => free_at HK.out j
        have qKl : N < wr.heap.size := HK.out.lt
        have qA0 : wr.cell? ⟨(N + 1), 0, none⟩ = some (.int .i64 0) := cell_at HA.out 0
        have qA1 : wr.cell? ⟨(N + 1), 1, none⟩ = some (.int .i64 0) := cell_at HA.out 1
        have qA2 : wr.cell? ⟨(N + 1), 2, none⟩ = some (.int .i64 0) := cell_at HA.out 2
        have qA3 : wr.cell? ⟨(N + 1), 3, none⟩ = some (.int .i64 0) := cell_at HA.out 3
        have qA4 : wr.cell? ⟨(N + 1), 4, none⟩ = some (.int .i64 0) := cell_at HA.out 4
        have qAz : ∀ j, wr.frozen? ⟨(N + 1), j, none⟩ = false := fun j => free_at HA.out j
        have qAl : (N + 1) < wr.heap.size := HA.out.lt
        go_wp2_with fail
        go_at_call 50
        go_fit (HCO.out _ HT.out)
        rintro e W6 ⟨v1, ob1, rfl, hv1, hB⟩
        clear qK0 qK1 qK2 qK3 qK4 qK5 qK6 qK7 qK8 qK9 qK10 qK11 qK12 qKz qKl qA0 qA1 qA2 qA3 qA4 qAz qAl
        replace HB := Lib.hid (HB.out.trans (hB.mono HB.out.size))
        replace HT := Lib.hid (HT0.out.below HB.out)
        replace HK := Lib.hid (HK.out.step hB)
        replace HA := Lib.hid (HA.out.step hB)
        replace HP := Lib.hid (HP.out.step hB)
        replace HFM := Lib.hid (Nat.le_trans HFM.out hB.size)
        clear hB
        have HO := Lib.hid (hv1.le HF0.out)
        have HX2 := Lib.hid (fun g (e : ob1 = some g) => Nat.lt_of_lt_of_le HX1.out (hv1.2.2 g e))
        clear hv1
        have qA0 : W6.cell? ⟨(N + 1), 0, none⟩ = some (.int .i64 0) := cell_at HA.out 0
        have qA1 : W6.cell? ⟨(N + 1), 1, none⟩ = some (.int .i64 0) := cell_at HA.out 1
        have qA2 : W6.cell? ⟨(N + 1), 2, none⟩ = some (.int .i64 0) := cell_at HA.out 2
        have qA3 : W6.cell? ⟨(N + 1), 3, none⟩ = some (.int .i64 0) := cell_at HA.out 3
        have qA4 : W6.cell? ⟨(N + 1), 4, none⟩ = some (.int .i64 0) := cell_at HA.out 4
        have qAz : ∀ j, W6.frozen? ⟨(N + 1), j, none⟩ = false := fun j => free_at HA.out j
        have qAl : (N + 1) < W6.heap.size := HA.out.lt
        go_wp2_with fail
        clear qA0 qA1 qA2 qA3 qA4 qAz qAl
        obtain ⟨LS, hLS⟩ : ∃ L : List Value, L = [.int .i64 161, .int .i64 0, .int .i64 0, .int .i64 0, .int .i64 0] := ⟨_, rfl⟩
        obtain ⟨W7, hWS⟩ : ∃ WS, WS = W6.setCells (N + 1) 0 LS := ⟨_, rfl⟩
        have hch := hWS
        rw [hLS] at hch
        simp only [World.setCells, Nat.zero_add, Nat.reduceAdd] at hch
        rw [← hch]
        clear hch
        have hkS := stC_blk HA.out LS (by rw [hLS]; rfl)
        have hfS := stC_fr (N + 1) LS 0 W6
        rw [← hWS] at hkS hfS
        rw [hLS] at hkS
        replace HB := Lib.hid (HB.out.trans (hfS.below HB.out.size (by have := HLON.out; simp; try omega)))
        replace HK := Lib.hid (show Blk W7 N #[.int .i8 kind, .int .i64 client, .int .i64 number, .int .i64 tenant, .int .i64 crate, .int .i64 cburst, .int .i64 shaper, .int .i64 epoch, .int .i64 clease, .int .i64 csize, .int .i64 spent, .bool closed, .slice lsa lsn lsc] 51 from (hfS.block _ HK.out.lt (by have hx0 := HXPHK.out; have hx1 := HXPHA.out; simp; try omega)).trans HK.out)
        replace HP := Lib.hid (show Blk W7 P #[.int .i64 own.tick, .int .i64 own.tenant, .int .i64 own.rate, .int .i64 own.burst] 87 from (hfS.block _ HP.out.lt (by have hx0 := HXPHK.out; have hx1 := HXPHA.out; simp; try omega)).trans HP.out)
        replace HFM := Lib.hid (Nat.le_trans HFM.out hfS.size)
        replace HO := Lib.hid (HO.out.frT HA.out hfS (by decide))
        replace HA := Lib.hid (show Blk W7 (N + 1) #[.int .i64 161, .int .i64 0, .int .i64 0, .int .i64 0, .int .i64 0] 54 from hkS)
        clear hWS hLS hkS hfS
        have qA0 : W7.cell? ⟨(N + 1), 0, none⟩ = some (.int .i64 161) := cell_at HA.out 0
        have qA1 : W7.cell? ⟨(N + 1), 1, none⟩ = some (.int .i64 0) := cell_at HA.out 1
        have qA2 : W7.cell? ⟨(N + 1), 2, none⟩ = some (.int .i64 0) := cell_at HA.out 2
        have qA3 : W7.cell? ⟨(N + 1), 3, none⟩ = some (.int .i64 0) := cell_at HA.out 3
        have qA4 : W7.cell? ⟨(N + 1), 4, none⟩ = some (.int .i64 0) := cell_at HA.out 4
        have qAz : ∀ j, W7.frozen? ⟨(N + 1), j, none⟩ = false := fun j => free_at HA.out j
        have qAl : (N + 1) < W7.heap.size := HA.out.lt
        exact bodyPost_ret (v := .tuple #[v1, .agg #[.int .i64 161, .int .i64 0, .int .i64 0, .int .i64 0, .int .i64 0]]) (by simp [results, Try.results21, go_sem, qA0, qA1, qA2, qA3, qA4]) rfl ⟨_, rfl, ⟨_, HO.out⟩, HB.out⟩
      rename_i x
      have hf9 := HFS3.out
      rw [Option.isSome_some] at hf9
      subst hf9
      have ho9 := HOW3.out
      rw [Option.getD_some] at ho9
      subst ho9
      by_cases k2 : kind = 2
      · skip
        have HOK2 : Hid ((tblB 0 t && cmdB 2 tenant) = true) := Lib.hid (by rw [← k2]; exact HOK.out)
        have HD2 : Hid (D = doF t 2 tenant crate cburst) := Lib.hid (by rw [← k2]; exact HD.out)
        have d2 : (kind == 2) = true := by simpa using k2
        clear k2
        rw [do_get HOK2.out HTT.out.symm] at HD2
        have hD := HD2.out
        subst hD
        clear HVA HVB HD
        have HF0 := Lib.hid HB.out.size
        have qK0 : wr.cell? ⟨N, 0, none⟩ = some (.int .i8 kind) := cell_at HK.out 0
        have qK1 : wr.cell? ⟨N, 1, none⟩ = some (.int .i64 client) := cell_at HK.out 1
        have qK2 : wr.cell? ⟨N, 2, none⟩ = some (.int .i64 number) := cell_at HK.out 2
        have qK3 : wr.cell? ⟨N, 3, none⟩ = some (.int .i64 tenant) := cell_at HK.out 3
        have qK4 : wr.cell? ⟨N, 4, none⟩ = some (.int .i64 crate) := cell_at HK.out 4
        have qK5 : wr.cell? ⟨N, 5, none⟩ = some (.int .i64 cburst) := cell_at HK.out 5
        have qK6 : wr.cell? ⟨N, 6, none⟩ = some (.int .i64 shaper) := cell_at HK.out 6
        have qK7 : wr.cell? ⟨N, 7, none⟩ = some (.int .i64 epoch) := cell_at HK.out 7
        have qK8 : wr.cell? ⟨N, 8, none⟩ = some (.int .i64 clease) := cell_at HK.out 8
        have qK9 : wr.cell? ⟨N, 9, none⟩ = some (.int .i64 csize) := cell_at HK.out 9
        have qK10 : wr.cell? ⟨N, 10, none⟩ = some (.int .i64 spent) := cell_at HK.out 10
        have qK11 : wr.cell? ⟨N, 11, none⟩ = some (.bool closed) := cell_at HK.out 11
        have qK12 : wr.cell? ⟨N, 12, none⟩ = some (.slice lsa lsn lsc) := cell_at HK.out 12
        have qKz : ∀ j, wr.frozen? ⟨N, j, none⟩ = false := fun j => free_at HK.out j
        have qKl : N < wr.heap.size := HK.out.lt
        go_upto_region 24 with fail
        clear qK0 qK1 qK2 qK3 qK4 qK5 qK6 qK7 qK8 qK9 qK10 qK11 qK12 qKz qKl
        refine wp_region_held_drew (S := fun X => (X.cell? ⟨P, 0, none⟩ = some (.int .i64 own.tick) ∧ X.cell? ⟨P, 1, none⟩ = some (.int .i64 own.tenant) ∧ X.cell? ⟨P, 2, none⟩ = some (.int .i64 own.rate) ∧ X.cell? ⟨P, 3, none⟩ = some (.int .i64 own.burst) ∧ P < X.heap.size)) (by kernel_rfl) ⟨cell_at HP.out 0, cell_at HP.out 1, cell_at HP.out 2, cell_at HP.out 3, HP.out.lt⟩ (fun hHeld => ?_)
        ((refine wpAnyH_take (i := 0) (v := ?_) (by (simp only [List.getElem?_toArray, List.getElem?_cons_succ, List.getElem?_cons_zero]); rfl) (by kernel_rfl) (by kernel_rfl) (by kernel_rfl) (by exact fun _ _ _ h => h) (Or.inl ⟨by rfl, ?_⟩) (by assumption) ?_); rotate_left; focus (intro wS hSw; (try dsimp only at hSw); go_simp; first | done | with_reducible rfl); try simp only [Act.put, List.setIfInBounds_toArray, List.set_cons_zero, List.set_cons_succ])
        ((refine wpAnyH_take (i := 2) (v := ?_) (by (simp only [List.getElem?_toArray, List.getElem?_cons_succ, List.getElem?_cons_zero]); rfl) (by kernel_rfl) (by kernel_rfl) (by kernel_rfl) (by exact fun _ _ _ h => h) (Or.inl ⟨by rfl, ?_⟩) (by assumption) ?_); rotate_left; focus (intro wS hSw; (try dsimp only at hSw); go_simp; first | done | with_reducible rfl); try simp only [Act.put, List.setIfInBounds_toArray, List.set_cons_zero, List.set_cons_succ])
        ((refine wpAnyH_take (i := 3) (v := ?_) (by (simp only [List.getElem?_toArray, List.getElem?_cons_succ, List.getElem?_cons_zero]); rfl) (by kernel_rfl) (by kernel_rfl) (by kernel_rfl) (by exact fun _ _ _ h => h) (Or.inl ⟨by rfl, ?_⟩) (by assumption) ?_); rotate_left; focus (intro wS hSw; (try dsimp only at hSw); go_simp; first | done | with_reducible rfl); try simp only [Act.put, List.setIfInBounds_toArray, List.set_cons_zero, List.set_cons_succ])
        ((refine wpAnyH_take (i := 4) (v := ?_) (by (simp only [List.getElem?_toArray, List.getElem?_cons_succ, List.getElem?_cons_zero]); rfl) (by kernel_rfl) (by kernel_rfl) (by kernel_rfl) (by exact fun _ _ _ h => h) (Or.inl ⟨by rfl, ?_⟩) (by assumption) ?_); rotate_left; focus (intro wS hSw; (try dsimp only at hSw); go_simp; first | done | with_reducible rfl); try simp only [Act.put, List.setIfInBounds_toArray, List.set_cons_zero, List.set_cons_succ])
        ((refine wpAnyH_take (i := 5) (v := ?_) (by (simp only [List.getElem?_toArray, List.getElem?_cons_succ, List.getElem?_cons_zero]); rfl) (by kernel_rfl) (by kernel_rfl) (by kernel_rfl) (by exact fun _ _ _ h => h) (Or.inl ⟨by rfl, ?_⟩) (by assumption) ?_); rotate_left; focus (intro wS hSw; (try dsimp only at hSw); go_simp; first | done | with_reducible rfl); try simp only [Act.put, List.setIfInBounds_toArray, List.set_cons_zero, List.set_cons_succ])
        ((refine wpAnyH_take (i := 6) (v := ?_) (by (simp only [List.getElem?_toArray, List.getElem?_cons_succ, List.getElem?_cons_zero]); rfl) (by kernel_rfl) (by kernel_rfl) (by kernel_rfl) (by exact fun _ _ _ h => h) (Or.inl ⟨by rfl, ?_⟩) (by assumption) ?_); rotate_left; focus (intro wS hSw; (try dsimp only at hSw); go_simp; first | done | with_reducible rfl); try simp only [Act.put, List.setIfInBounds_toArray, List.set_cons_zero, List.set_cons_succ])
        refine wpAnyH_ready (rs := [1]) (by kernel_rfl) (by simp) ?_
        refine AllReadyH.cons (by (simp only [List.getElem?_toArray, List.getElem?_cons_succ, List.getElem?_cons_zero]); rfl) (fun K hK => ?_) AllReadyH.nil
        go_simp
        go_fit (HCO.out _ (HT.out.below (Below.refl _ _).drew))
        rintro e W6 ⟨v1, ob1, rfl, hv1, hB⟩
        replace hB := below_undrew hB
        replace HB := Lib.hid (HB.out.trans (hB.mono HB.out.size))
        replace HT := Lib.hid (HT0.out.below HB.out)
        replace HK := Lib.hid (HK.out.step hB)
        replace HA := Lib.hid (HA.out.step hB)
        replace HP := Lib.hid (HP.out.step hB)
        replace HFM := Lib.hid (Nat.le_trans HFM.out hB.size)
        have HO := Lib.hid (hv1.le HF0.out)
        clear hv1
        go_wp2_with fail
        refine hK.out _ _ ⟨cell_at HP.out 0, cell_at HP.out 1, cell_at HP.out 2, cell_at HP.out 3, HP.out.lt⟩ (fun hHeld => ?_)
        clear hK K hB
        try simp only [Act.put, List.setIfInBounds_toArray, List.set_cons_zero, List.set_cons_succ]
        ((refine wpAnyH_take (i := 7) (v := ?_) (by (simp only [List.getElem?_toArray, List.getElem?_cons_succ, List.getElem?_cons_zero]); rfl) (by kernel_rfl) (by kernel_rfl) (by kernel_rfl) (by exact fun _ _ _ h => h) (Or.inl ⟨by rfl, ?_⟩) (by assumption) ?_); rotate_left; focus (intro wS hSw; (try dsimp only at hSw); go_simp; first | done | with_reducible rfl); try simp only [Act.put, List.setIfInBounds_toArray, List.set_cons_zero, List.set_cons_succ])
        refine wpAnyH_ready (rs := [8]) (by kernel_rfl) (by simp) ?_
        refine AllReadyH.cons (by (simp only [List.getElem?_toArray, List.getElem?_cons_succ, List.getElem?_cons_zero]); rfl) (fun K hK => ?_) AllReadyH.nil
        have qA0 : W6.cell? ⟨(N + 1), 0, none⟩ = some (.int .i64 0) := cell_at HA.out 0
        have qA1 : W6.cell? ⟨(N + 1), 1, none⟩ = some (.int .i64 0) := cell_at HA.out 1
        have qA2 : W6.cell? ⟨(N + 1), 2, none⟩ = some (.int .i64 0) := cell_at HA.out 2
        have qA3 : W6.cell? ⟨(N + 1), 3, none⟩ = some (.int .i64 0) := cell_at HA.out 3
        have qA4 : W6.cell? ⟨(N + 1), 4, none⟩ = some (.int .i64 0) := cell_at HA.out 4
        have qAz : ∀ j, W6.frozen? ⟨(N + 1), j, none⟩ = false := fun j => free_at HA.out j
        have qAl : (N + 1) < W6.heap.size := HA.out.lt
        go_simp
        clear qA0 qA1 qA2 qA3 qA4 qAz qAl
        obtain ⟨LS, hLS⟩ : ∃ L : List Value, L = [.int .i64 0, .int .i64 own.rate, .int .i64 own.burst, .int .i64 0, .int .i64 0] := ⟨_, rfl⟩
        obtain ⟨W7, hWS⟩ : ∃ WS, WS = W6.setCells (N + 1) 0 LS := ⟨_, rfl⟩
        have hch := hWS
        rw [hLS] at hch
        simp only [World.setCells, Nat.zero_add, Nat.reduceAdd] at hch
        rw [← hch]
        clear hch
        have hkS := stC_blk HA.out LS (by rw [hLS]; rfl)
        have hfS := stC_fr (N + 1) LS 0 W6
        rw [← hWS] at hkS hfS
        rw [hLS] at hkS
        replace HB := Lib.hid (HB.out.trans (hfS.below HB.out.size (by have := HLON.out; simp; try omega)))
        replace HK := Lib.hid (show Blk W7 N #[.int .i8 kind, .int .i64 client, .int .i64 number, .int .i64 tenant, .int .i64 crate, .int .i64 cburst, .int .i64 shaper, .int .i64 epoch, .int .i64 clease, .int .i64 csize, .int .i64 spent, .bool closed, .slice lsa lsn lsc] 51 from (hfS.block _ HK.out.lt (by have hx0 := HXPHK.out; have hx1 := HXPHA.out; simp; try omega)).trans HK.out)
        replace HP := Lib.hid (show Blk W7 P #[.int .i64 own.tick, .int .i64 own.tenant, .int .i64 own.rate, .int .i64 own.burst] 87 from (hfS.block _ HP.out.lt (by have hx0 := HXPHK.out; have hx1 := HXPHA.out; simp; try omega)).trans HP.out)
        replace HFM := Lib.hid (Nat.le_trans HFM.out hfS.size)
        replace HO := Lib.hid (HO.out.frT HA.out hfS (by decide))
        replace HA := Lib.hid (show Blk W7 (N + 1) #[.int .i64 0, .int .i64 own.rate, .int .i64 own.burst, .int .i64 0, .int .i64 0] 54 from hkS)
        clear hWS hLS hkS hfS
        refine hK.out _ _ ⟨cell_at HP.out 0, cell_at HP.out 1, cell_at HP.out 2, cell_at HP.out 3, HP.out.lt⟩ (fun hHeld => ?_)
        clear hK K
        try simp only [Act.put, List.setIfInBounds_toArray, List.set_cons_zero, List.set_cons_succ]
        refine wpAnyH_done (by kernel_rfl) ?_ _
        try simp only [Act.put, List.setIfInBounds_toArray, List.set_cons_zero, List.set_cons_succ]
        go_wp2_with fail
        have qA0 : W7.cell? ⟨(N + 1), 0, none⟩ = some (.int .i64 0) := cell_at HA.out 0
        have qA1 : W7.cell? ⟨(N + 1), 1, none⟩ = some (.int .i64 own.rate) := cell_at HA.out 1
        have qA2 : W7.cell? ⟨(N + 1), 2, none⟩ = some (.int .i64 own.burst) := cell_at HA.out 2
        have qA3 : W7.cell? ⟨(N + 1), 3, none⟩ = some (.int .i64 0) := cell_at HA.out 3
        have qA4 : W7.cell? ⟨(N + 1), 4, none⟩ = some (.int .i64 0) := cell_at HA.out 4
        have qAz : ∀ j, W7.frozen? ⟨(N + 1), j, none⟩ = false := fun j => free_at HA.out j
        have qAl : (N + 1) < W7.heap.size := HA.out.lt
        exact bodyPost_ret (v := .tuple #[v1, .agg #[.int .i64 0, .int .i64 own.rate, .int .i64 own.burst, .int .i64 0, .int .i64 0]]) (by simp [results, Try.results21, go_sem, qA0, qA1, qA2, qA3, qA4]) rfl ⟨_, rfl, ⟨_, HO.out⟩, HB.out⟩
      · skip
        have d2 : (kind == 2) = false := by simpa using k2
        rw [do_del HOK.out K1.out k2 HTT.out.symm] at HD
        have hD := HD.out
        subst hD
        have hla : (t.filter (fun f => decide (f.tenant < tenant))).length + (t.filter (fun f => decide (tenant < f.tenant))).length ≤ 100000 := by have h1 := List.length_filter_le (fun f => decide (f.tenant < tenant)) t; have h2 := List.length_filter_le (fun f => decide (tenant < f.tenant)) t; have := HL.out; omega
        clear k2
        obtain ⟨v3, ob3, W6, hrun, hor, hBM⟩ := fc_app (ty := 48) HVA.out HVB.out.v HFM.out hla
        have HRUN := Lib.hid hrun
        have HOR := Lib.hid hor
        clear hrun hor hla
        have qK0 : wr.cell? ⟨N, 0, none⟩ = some (.int .i8 kind) := cell_at HK.out 0
        have qK1 : wr.cell? ⟨N, 1, none⟩ = some (.int .i64 client) := cell_at HK.out 1
        have qK2 : wr.cell? ⟨N, 2, none⟩ = some (.int .i64 number) := cell_at HK.out 2
        have qK3 : wr.cell? ⟨N, 3, none⟩ = some (.int .i64 tenant) := cell_at HK.out 3
        have qK4 : wr.cell? ⟨N, 4, none⟩ = some (.int .i64 crate) := cell_at HK.out 4
        have qK5 : wr.cell? ⟨N, 5, none⟩ = some (.int .i64 cburst) := cell_at HK.out 5
        have qK6 : wr.cell? ⟨N, 6, none⟩ = some (.int .i64 shaper) := cell_at HK.out 6
        have qK7 : wr.cell? ⟨N, 7, none⟩ = some (.int .i64 epoch) := cell_at HK.out 7
        have qK8 : wr.cell? ⟨N, 8, none⟩ = some (.int .i64 clease) := cell_at HK.out 8
        have qK9 : wr.cell? ⟨N, 9, none⟩ = some (.int .i64 csize) := cell_at HK.out 9
        have qK10 : wr.cell? ⟨N, 10, none⟩ = some (.int .i64 spent) := cell_at HK.out 10
        have qK11 : wr.cell? ⟨N, 11, none⟩ = some (.bool closed) := cell_at HK.out 11
        have qK12 : wr.cell? ⟨N, 12, none⟩ = some (.slice lsa lsn lsc) := cell_at HK.out 12
        have qKz : ∀ j, wr.frozen? ⟨N, j, none⟩ = false := fun j => free_at HK.out j
        have qKl : N < wr.heap.size := HK.out.lt
        clear HT
        go_upto_region 25 with fail
        replace HA := Lib.hid (HA.out.stepM hBM HXMHA.out)
        have eA0 : W6.cell? ⟨N + 1, 0, none⟩ = some (.int .i64 0) := cell_at HA.out 0
        have eA1 : W6.cell? ⟨N + 1, 1, none⟩ = some (.int .i64 0) := cell_at HA.out 1
        have eA2 : W6.cell? ⟨N + 1, 2, none⟩ = some (.int .i64 0) := cell_at HA.out 2
        have eA3 : W6.cell? ⟨N + 1, 3, none⟩ = some (.int .i64 0) := cell_at HA.out 3
        have eA4 : W6.cell? ⟨N + 1, 4, none⟩ = some (.int .i64 0) := cell_at HA.out 4
        have eAz : ∀ j, W6.frozen? ⟨N + 1, j, none⟩ = false := fun j => free_at HA.out j
        have eAl : N + 1 < W6.heap.size := HA.out.lt
        go_wp2_with (at_builtin; refine Lib.wpList_append_run _ rfl (.tmp 116) (.tmp 117) 48 48 rfl _ _ rfl rfl _ _ HRUN.out ?_)
        clear eA0 eA1 eA2 eA3 eA4 eAz eAl HRUN
        clear qK0 qK1 qK2 qK3 qK4 qK5 qK6 qK7 qK8 qK9 qK10 qK11 qK12 qKz qKl
        replace HB := Lib.hid (HB.out.trans (hBM.mono HLOM.out))
        clear HK HP HFM hBM HVA HVB
        obtain ⟨LS, hLS⟩ : ∃ L : List Value, L = [.int .i64 0, .int .i64 0, .int .i64 0, .int .i64 0, .int .i64 0] := ⟨_, rfl⟩
        obtain ⟨W7, hWS⟩ : ∃ WS, WS = W6.setCells (N + 1) 0 LS := ⟨_, rfl⟩
        have hch := hWS
        rw [hLS] at hch
        simp only [World.setCells, Nat.zero_add, Nat.reduceAdd] at hch
        rw [← hch]
        clear hch
        have hkS := stC_blk HA.out LS (by rw [hLS]; rfl)
        have hfS := stC_fr (N + 1) LS 0 W6
        rw [← hWS] at hkS hfS
        rw [hLS] at hkS
        replace HB := Lib.hid (HB.out.trans (hfS.below HB.out.size (by have := HLON.out; simp; try omega)))
        replace HOR := Lib.hid (HOR.out.frT HA.out hfS (by decide))
        replace HA := Lib.hid (show Blk W7 (N + 1) #[.int .i64 0, .int .i64 0, .int .i64 0, .int .i64 0, .int .i64 0] 54 from hkS)
        clear hWS hLS hkS hfS
        have qA0 : W7.cell? ⟨(N + 1), 0, none⟩ = some (.int .i64 0) := cell_at HA.out 0
        have qA1 : W7.cell? ⟨(N + 1), 1, none⟩ = some (.int .i64 0) := cell_at HA.out 1
        have qA2 : W7.cell? ⟨(N + 1), 2, none⟩ = some (.int .i64 0) := cell_at HA.out 2
        have qA3 : W7.cell? ⟨(N + 1), 3, none⟩ = some (.int .i64 0) := cell_at HA.out 3
        have qA4 : W7.cell? ⟨(N + 1), 4, none⟩ = some (.int .i64 0) := cell_at HA.out 4
        have qAz : ∀ j, W7.frozen? ⟨(N + 1), j, none⟩ = false := fun j => free_at HA.out j
        have qAl : (N + 1) < W7.heap.size := HA.out.lt
        exact bodyPost_ret (v := .tuple #[v3, .agg #[.int .i64 0, .int .i64 0, .int .i64 0, .int .i64 0, .int .i64 0]]) (by simp [results, Try.results21, go_sem, qA0, qA1, qA2, qA3, qA4]) rfl ⟨_, rfl, ⟨_, HOR.out.le HLOM.out⟩, HB.out⟩
end Go.Proofs.Ythmjlomlceljkaa
