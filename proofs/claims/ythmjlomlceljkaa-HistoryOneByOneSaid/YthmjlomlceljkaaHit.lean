/-
  Commands one by one: the law.
-/
import Derived.Test.YthmjlomlceljkaaHis
import Derived.Test.YthmjlomlceljkaaHij
import Derived.Deep.DeepFit
import Derived.Lib.AppendZeros
import Derived.Deep.RegionLaw
import Derived.Deep.RegionWith
import Derived.Lib.EndianBits
import Derived.Deep.MidRow
namespace Go.Proofs.Ythmjlomlceljkaa
open Go.RowKit
set_option linter.unusedSimpArgs false
set_option linter.unusedVariables false

theorem ca_push {W : World} {M b : Nat} {ty : TypeId} {v : Value} {ob : Option Nat} {L : List CaE} {x : CaE} (h : CaO M W v ob L) (hb : Blk W b x.cells.toArray 67) (hx : x.ok) (hM : M ≤ W.heap.size) (hn : L.length ≤ 10000) :
    ∃ v' ob' w', (Builtin.append_ #[52, 52] ty #[v, .slice (some ⟨b, 0, none⟩) 1 1]).run Try.prog W = .ok v' w' ∧ CaO M w' v' ob' (L ++ [x]) ∧ Below M W w' ∧ (∀ (n : Nat) (cs : Array Value) (ty : TypeId) (fr : Nat × Nat), W.heap[n]? = some (Obj.cells cs ty fr) → ty ≠ 67 → w'.heap[n]? = W.heap[n]?) := by
  obtain ⟨r1, r4, r5⟩ := h
  obtain ⟨i0, hi, hz0, hz1, hz2⟩ := info_parts caZero
  obtain ⟨v', ob', w', hrun, s1, s2, s3⟩ := run_append_row (P := Try.prog) W 52 ty 67 i0 _ 20 176 Try.underlying52 hi hz0 hz1 hz2 rfl (by decide) v ob L.length (llCa L) r1 ⟨b, 0, none⟩ 1 1 (llCa [x]) (by decide) (llCa_len _) (fun j u hu => by
    rw [addr_add, cell_at hb, Nat.zero_add, ← hu, llCa_one, List.getElem?_toArray]) (llCa_ones _) (by unfold maxLen; omega) (by omega)
  refine ⟨v', some ob', w', hrun, ⟨by rw [List.length_append, llCa_append]; exact s1, fun y hy => ?_, fun g e => ?_⟩, (Below.refl M W).grown s2 hM r5, fun n cs ty' fr hi h1 => s2.block n (Array.getElem?_eq_some_iff.1 hi).1 fun e => ?_⟩
  · rcases List.mem_append.1 hy with h | h
    · exact r4 y h
    · simp at h; subst h; exact hx
  · obtain rfl := Option.some.inj e
    rcases s3 with h | h
    · exact r5 _ h
    · omega
  · rcases r1.cases with ⟨e1, _⟩ | ⟨g', cap, cur, e1, _, h4, _⟩
    · rw [e1] at e; cases e
    · rw [e1] at e
      obtain rfl := Option.some.inj e
      have := hi.symm.trans h4
      injection this with e'
      injection e' with e1 e2
      exact h1 e2
theorem FcO.keepT {w w' : World} {m : Nat} {v : Value} {ob : Option Nat} {t : List FcE} (ht : FcO m w v ob t) (h : ∀ (n : Nat) (cs : Array Value) (ty : TypeId) (fr : Nat × Nat), w.heap[n]? = some (Obj.cells cs ty fr) → ty ≠ 67 → w'.heap[n]? = w.heap[n]?) : FcO m w' v ob t := by
  refine ⟨ht.1.congr fun g e => ?_, ht.2⟩
  rcases ht.1.cases with ⟨e1, _⟩ | ⟨g', cap, cur, e1, _, h4, _⟩
  · rw [e1] at e; cases e
  · rw [e1] at e
    obtain rfl := Option.some.inj e
    exact h g' cur 87 (0, 0) h4 (by decide)
theorem CaO.frT {w w' : World} {m Q : Nat} {cs : Array Value} {ty : TypeId} {v : Value} {ob : Option Nat} {t : List CaE} (h : CaO m w v ob t) (hb : Blk w Q cs ty) (hf : Fr [Q] w w') (hty : ty ≠ 67) : CaO m w' v ob t := by
  refine ⟨h.1.congr fun g e => ?_, h.2⟩
  rcases h.1.cases with ⟨e1, _⟩ | ⟨g', cap, cur, e1, _, h4, _⟩
  · rw [e1] at e; cases e
  · rw [e1] at e
    obtain rfl := Option.some.inj e
    refine hf.block g' (Array.getElem?_eq_some_iff.1 h4).1 ?_
    simp only [List.mem_singleton]
    rintro rfl
    have := h4.symm.trans hb
    injection this with e'
    injection e' with e1 e2
    exact hty e2.symm
theorem blk_range {W : World} {b : Nat} {cs : List Value} {t : TypeId} (h : Blk W b cs.toArray t) : W.rangeAt b 0 cs := fun j v hv => by
  rw [cell_at h, Nat.zero_add, List.getElem?_toArray]
  exact hv
set_option maxRecDepth 100000 in
set_option maxHeartbeats 40000000 in
theorem oneByOne_walk (v : Value) (C : List CmE) (pa : Int) (w : World) (h : CmV w v C) (hpa : -9223372036854775808 ≤ pa ∧ pa ≤ 9223372036854775807) : Calls Try.prog 8 #[v, .int .i64 pa] w fun e w' => e = .returned (.bool true) ∧ Below w.heap.size w w' := by
  obtain ⟨ca, n, cap, rfl, HN, m1, m2⟩ := h.sh
  have HL0 := Lib.hid h
  have HL := Lib.hid h
  have HOK := Lib.hid h.ok
  have HPA := Lib.hid hpa
  have HWK := Lib.hid (fun W => hwakes_any W)
  clear h hpa
  have HB : Hid (Below w.heap.size w w) := Lib.hid (Below.refl _ _)
  by_cases k1 : 7 < n
  · skip
    have t1 : decide ((7 : Int) < (n : Int)) = true := decide_eq_true (by omega)
    go_enter Try.func8, Try.ntmps8
    go_wp2_with fail
    go_at_call 19
    go_fit (HWK.out _)
    rintro e W1 ⟨rfl, hB⟩
    replace HB := Lib.hid (HB.out.trans (hB.mono HB.out.size))
    replace HL := Lib.hid (HL0.out.below HB.out)
    clear hB
    go_wp2_with fail
    try rw [Exit.noGoto_ret]
    go_ret
    exact ⟨rfl, HB.out⟩
  have t1 : decide ((7 : Int) < (n : Int)) = false := decide_eq_false (by omega)
  go_enter Try.func8, Try.ntmps8
  go_wp2_with fail
  go_loopw [5, 6, 7, 8, 9, 10, 11, 22] (fun vt vc bad _ _ _ _ i wr => ∃ (k : Nat) (ot oc : Option Nat), k ≤ n ∧ i = .int .i64 k ∧ bad = .bool (decide (0 ≤ pa ∧ pa < (k : Int))) ∧ FcO 0 wr vt ot (tabC C k) ∧ CaO w.heap.size wr vc oc (oneL C pa k) ∧ (∀ j, j < k → cmdB (gCm C j).kind (gCm C j).tenant = true) ∧ Below w.heap.size w wr) (fun _ _ _ _ _ _ _ i _ => n - (intOf i).toNat)
  case atStart => exact ⟨0, none, none, Nat.zero_le _, rfl, by rw [decide_eq_false (by omega)], fco_nil _ _, cao_nil _ _, (fun j hj => absurd hj (Nat.not_lt_zero j)), HB.out⟩
  case round =>
    clear HB HL
    obtain ⟨k, ot, oc, hk, rfl, rfl, hT, hO, hc, hB⟩ := hrel
    have HB := Lib.hid hB
    have HT := Lib.hid hT
    have HO := Lib.hid hO
    have HCC := Lib.hid hc
    have HL := Lib.hid (HL0.out.below HB.out)
    obtain ⟨ta, tn, tc, rfl, Htn, tn1, tn2⟩ := hT.v.sh
    obtain ⟨va, vn, vc, rfl, Hvn, vn1, vn2⟩ := hO.v.sh
    obtain ⟨bd, hbd⟩ : ∃ b, b = decide (0 ≤ pa ∧ pa < (k : Int)) := ⟨_, rfl⟩
    rw [← hbd]
    have HBD := Lib.hid hbd
    clear hB hT hO hc hbd
    by_cases hlt : k < n
    · skip
      obtain ⟨g, o, x, ea, g1, hx, hrg⟩ := HL.out.ld k hlt
      subst ea
      have hxe : gCm C k = x := gCm_of hx
      have HXO := Lib.hid (HOK.out x (List.mem_of_getElem? hx))
      have HXE := Lib.hid hxe
      have HRG := Lib.hid hrg
      obtain ⟨A, hA⟩ : ∃ A, A = cmA (tabC C k) x := ⟨_, rfl⟩
      have HA := Lib.hid hA
      have HTB := Lib.hid (tabC_tbl C k)
      have HTOK := Lib.hid HT.out.2.1
      have HDO := Lib.hid (show ∀ W, FcV W (.slice ta tn tc) (tabC C k) → Calls Try.prog 20 #[.slice ta tn tc, .agg #[.int .i8 x.kind, .int .i64 x.client, .int .i64 x.number, .int .i64 x.tenant, .int .i64 x.crate, .int .i64 x.cburst, .int .i64 x.shaper, .int .i64 x.epoch, .int .i64 x.clease, .int .i64 x.csize, .int .i64 x.spent, .bool x.closed, .slice x.lsa x.lsn x.lsc]] W fun e w' => ∃ v' ob, e = .returned (.tuple #[v', .agg #[.int .i64 A.e, .int .i64 A.r, .int .i64 A.b, .int .i64 0, .int .i64 0]]) ∧ FcO W.heap.size w' v' ob A.l ∧ Below W.heap.size W w' from fun W h => by rw [hA]; exact do_any (mkCa x 0 0 0 0 0 0 0) _ (tabC C k) W h (by have := tbl_len16 HTB.out; omega))
      have ww5 : IntKind.i64.wrap ((k : Int) + 1) = (k : Int) + 1 := IntWalk.i64_in _ (by omega)
      have b9 : ((k : Int) < (n : Int)) = True := eq_true (by omega)
      have bk1 : (k < n) = True := eq_true hlt
      have HLT := Lib.hid hlt
      clear hx hxe hrg hA hlt
      go_upto_region 9 with (first | (refine wpList_load_mid rfl 51 (.tmp 25) rfl g (o + k * 13) rfl [.int .i8 x.kind, .int .i64 x.client, .int .i64 x.number, .int .i64 x.tenant, .int .i64 x.crate, .int .i64 x.cburst, .int .i64 x.shaper, .int .i64 x.epoch, .int .i64 x.clease, .int .i64 x.csize, .int .i64 x.spent, .bool x.closed, .slice x.lsa x.lsn x.lsc] _ (by exact HRG.out) Try.underlying51 rfl (by kernel_rfl) ?_) | (refine wpList_store_mid rfl 51 (.tmp 9) (.tmp 26) rfl wr.heap.size 0 #[.int .i8 x.kind, .int .i64 x.client, .int .i64 x.number, .int .i64 x.tenant, .int .i64 x.crate, .int .i64 x.cburst, .int .i64 x.shaper, .int .i64 x.epoch, .int .i64 x.clease, .int .i64 x.csize, .int .i64 x.spent, .bool x.closed, .slice x.lsa x.lsn x.lsc] rfl rfl (there_new _ #[.int .i8 0, .int .i64 0, .int .i64 0, .int .i64 0, .int .i64 0, .int .i64 0, .int .i64 0, .int .i64 0, .int .i64 0, .int .i64 0, .int .i64 0, .bool false, .slice none 0 0] _) (by kernel_rfl) (by kernel_rfl) ?_; obtain ⟨W1, hA0⟩ : ∃ W0, W0 = (wr.alloc (.cells #[.int .i8 0, .int .i64 0, .int .i64 0, .int .i64 0, .int .i64 0, .int .i64 0, .int .i64 0, .int .i64 0, .int .i64 0, .int .i64 0, .int .i64 0, .bool false, .slice none 0 0] 51)).setCells wr.heap.size 0 (#[.int .i8 x.kind, .int .i64 x.client, .int .i64 x.number, .int .i64 x.tenant, .int .i64 x.crate, .int .i64 x.cburst, .int .i64 x.shaper, .int .i64 x.epoch, .int .i64 x.clease, .int .i64 x.csize, .int .i64 x.spent, .bool x.closed, .slice x.lsa x.lsn x.lsc] : Array Value).toList := ⟨_, rfl⟩; rw [← hA0]))
      obtain ⟨hB, hbk, hlt9⟩ := newS hA0 rfl
      clear hA0
      try simp only [Act.put]
      obtain ⟨N, hN⟩ : ∃ n0, n0 = wr.heap.size := ⟨_, rfl⟩
      have HLON : Hid (w.heap.size ≤ N) := Lib.hid (by have := HB.out.size; omega)
      rw [← hN]
      rw [← hN] at hbk
      have HK := Lib.hid (show Blk W1 N #[.int .i8 x.kind, .int .i64 x.client, .int .i64 x.number, .int .i64 x.tenant, .int .i64 x.crate, .int .i64 x.cburst, .int .i64 x.shaper, .int .i64 x.epoch, .int .i64 x.clease, .int .i64 x.csize, .int .i64 x.spent, .bool x.closed, .slice x.lsa x.lsn x.lsc] 51 from hbk)
      clear hbk HRG
      replace HB := Lib.hid (HB.out.trans (hB.mono HB.out.size))
      replace HL := Lib.hid (HL0.out.below HB.out)
      replace HT := Lib.hid (HT.out.step hB)
      replace HO := Lib.hid (HO.out.step hB)
      clear hB hlt9 hN
      have qK0 : W1.cell? ⟨N, 0, none⟩ = some (.int .i8 x.kind) := cell_at HK.out 0
      have qK1 : W1.cell? ⟨N, 1, none⟩ = some (.int .i64 x.client) := cell_at HK.out 1
      have qK2 : W1.cell? ⟨N, 2, none⟩ = some (.int .i64 x.number) := cell_at HK.out 2
      have qK3 : W1.cell? ⟨N, 3, none⟩ = some (.int .i64 x.tenant) := cell_at HK.out 3
      have qK4 : W1.cell? ⟨N, 4, none⟩ = some (.int .i64 x.crate) := cell_at HK.out 4
      have qK5 : W1.cell? ⟨N, 5, none⟩ = some (.int .i64 x.cburst) := cell_at HK.out 5
      have qK6 : W1.cell? ⟨N, 6, none⟩ = some (.int .i64 x.shaper) := cell_at HK.out 6
      have qK7 : W1.cell? ⟨N, 7, none⟩ = some (.int .i64 x.epoch) := cell_at HK.out 7
      have qK8 : W1.cell? ⟨N, 8, none⟩ = some (.int .i64 x.clease) := cell_at HK.out 8
      have qK9 : W1.cell? ⟨N, 9, none⟩ = some (.int .i64 x.csize) := cell_at HK.out 9
      have qK10 : W1.cell? ⟨N, 10, none⟩ = some (.int .i64 x.spent) := cell_at HK.out 10
      have qK11 : W1.cell? ⟨N, 11, none⟩ = some (.bool x.closed) := cell_at HK.out 11
      have qK12 : W1.cell? ⟨N, 12, none⟩ = some (.slice x.lsa x.lsn x.lsc) := cell_at HK.out 12
      have qKz : ∀ j, W1.frozen? ⟨N, j, none⟩ = false := fun j => free_at HK.out j
      have qKl : N < W1.heap.size := HK.out.lt
      by_cases c0 : x.kind < 1
      · skip
        have d0 : decide (x.kind < 1) = true := decide_eq_true c0
        go_wp2_with fail
        go_at_call 19
        go_fit (HWK.out _)
        rintro e W2 ⟨rfl, hB⟩
        clear qK0 qK1 qK2 qK3 qK4 qK5 qK6 qK7 qK8 qK9 qK10 qK11 qK12 qKz qKl
        replace HB := Lib.hid (HB.out.trans (hB.mono HB.out.size))
        replace HL := Lib.hid (HL0.out.below HB.out)
        replace HT := Lib.hid (HT.out.step hB)
        replace HO := Lib.hid (HO.out.step hB)
        replace HK := Lib.hid (HK.out.step hB)
        clear hB
        go_wp2_with fail
        try rw [Exit.noGoto_ret]
        go_ret
        exact ⟨rfl, HB.out⟩
      have d0 : decide (x.kind < 1) = false := decide_eq_false c0
      by_cases c1 : 3 < x.kind
      · skip
        have d1 : decide ((3 : Int) < x.kind) = true := decide_eq_true c1
        go_wp2_with fail
        go_at_call 19
        go_fit (HWK.out _)
        rintro e W2 ⟨rfl, hB⟩
        clear qK0 qK1 qK2 qK3 qK4 qK5 qK6 qK7 qK8 qK9 qK10 qK11 qK12 qKz qKl
        replace HB := Lib.hid (HB.out.trans (hB.mono HB.out.size))
        replace HL := Lib.hid (HL0.out.below HB.out)
        replace HT := Lib.hid (HT.out.step hB)
        replace HO := Lib.hid (HO.out.step hB)
        replace HK := Lib.hid (HK.out.step hB)
        clear hB
        go_wp2_with fail
        try rw [Exit.noGoto_ret]
        go_ret
        exact ⟨rfl, HB.out⟩
      have d1 : decide ((3 : Int) < x.kind) = false := decide_eq_false c1
      by_cases c2 : x.tenant < 1
      · skip
        have d2 : decide (x.tenant < 1) = true := decide_eq_true c2
        go_wp2_with fail
        go_at_call 19
        go_fit (HWK.out _)
        rintro e W2 ⟨rfl, hB⟩
        clear qK0 qK1 qK2 qK3 qK4 qK5 qK6 qK7 qK8 qK9 qK10 qK11 qK12 qKz qKl
        replace HB := Lib.hid (HB.out.trans (hB.mono HB.out.size))
        replace HL := Lib.hid (HL0.out.below HB.out)
        replace HT := Lib.hid (HT.out.step hB)
        replace HO := Lib.hid (HO.out.step hB)
        replace HK := Lib.hid (HK.out.step hB)
        clear hB
        go_wp2_with fail
        try rw [Exit.noGoto_ret]
        go_ret
        exact ⟨rfl, HB.out⟩
      have d2 : decide (x.tenant < 1) = false := decide_eq_false c2
      by_cases c3 : 16 < x.tenant
      · skip
        have d3 : decide ((16 : Int) < x.tenant) = true := decide_eq_true c3
        go_wp2_with fail
        go_at_call 19
        go_fit (HWK.out _)
        rintro e W2 ⟨rfl, hB⟩
        clear qK0 qK1 qK2 qK3 qK4 qK5 qK6 qK7 qK8 qK9 qK10 qK11 qK12 qKz qKl
        replace HB := Lib.hid (HB.out.trans (hB.mono HB.out.size))
        replace HL := Lib.hid (HL0.out.below HB.out)
        replace HT := Lib.hid (HT.out.step hB)
        replace HO := Lib.hid (HO.out.step hB)
        replace HK := Lib.hid (HK.out.step hB)
        clear hB
        go_wp2_with fail
        try rw [Exit.noGoto_ret]
        go_ret
        exact ⟨rfl, HB.out⟩
      have d3 : decide ((16 : Int) < x.tenant) = false := decide_eq_false c3
      have hcm : cmdB x.kind x.tenant = true := by simp [cmdB, tenB]; omega
      have HCM : Hid (∀ j, j < k + 1 → cmdB (gCm C j).kind (gCm C j).tenant = true) := Lib.hid (fun j hj => by
        rcases Nat.lt_or_ge j k with h | h
        · exact HCC.out j h
        · obtain rfl : j = k := by omega
          rw [HXE.out]
          exact hcm)
      clear hcm
      have HRX := Lib.hid (show W1.rangeAt N 0 [.int .i8 x.kind, .int .i64 x.client, .int .i64 x.number, .int .i64 x.tenant, .int .i64 x.crate, .int .i64 x.cburst, .int .i64 x.shaper, .int .i64 x.epoch, .int .i64 x.clease, .int .i64 x.csize, .int .i64 x.spent, .bool x.closed, .slice x.lsa x.lsn x.lsc] from blk_range (cs := [.int .i8 x.kind, .int .i64 x.client, .int .i64 x.number, .int .i64 x.tenant, .int .i64 x.crate, .int .i64 x.cburst, .int .i64 x.shaper, .int .i64 x.epoch, .int .i64 x.clease, .int .i64 x.csize, .int .i64 x.spent, .bool x.closed, .slice x.lsa x.lsn x.lsc]) HK.out)
      go_wp2_with (refine wpList_load_mid rfl 51 (.tmp 9) rfl N 0 rfl [.int .i8 x.kind, .int .i64 x.client, .int .i64 x.number, .int .i64 x.tenant, .int .i64 x.crate, .int .i64 x.cburst, .int .i64 x.shaper, .int .i64 x.epoch, .int .i64 x.clease, .int .i64 x.csize, .int .i64 x.spent, .bool x.closed, .slice x.lsa x.lsn x.lsc] _ (by exact HRX.out) Try.underlying51 rfl (by kernel_rfl) ?_)
      go_at_call 20
      go_fit (HDO.out _ HT.out.v)
      rintro e W2 ⟨v2, ob2, rfl, ho2, hB⟩
      clear HRX HDO d0 d1 d2 d3 c0 c1 c2 c3
      clear qK0 qK1 qK2 qK3 qK4 qK5 qK6 qK7 qK8 qK9 qK10 qK11 qK12 qKz qKl
      replace HB := Lib.hid (HB.out.trans (hB.mono HB.out.size))
      replace HL := Lib.hid (HL0.out.below HB.out)
      replace HT := Lib.hid (HT.out.step hB)
      replace HO := Lib.hid (HO.out.step hB)
      replace HK := Lib.hid (HK.out.step hB)
      clear hB
      have HT2 := Lib.hid (ho2.le (Nat.zero_le _))
      obtain ⟨a2, n2, c2, rfl, H2, q21, q22⟩ := ho2.v.sh
      clear ho2 HT
      go_upto_region 12 with fail
      obtain ⟨Q, hQ⟩ : ∃ n0, n0 = W2.heap.size := ⟨_, rfl⟩
      have HXQHK : Hid (N < Q) := Lib.hid (by rw [hQ]; exact HK.out.lt)
      have HLOQ : Hid (w.heap.size ≤ Q) := Lib.hid (by have := HB.out.size; omega)
      obtain ⟨W3, hA0⟩ : ∃ W0, W0 = W2.alloc (.cells #[.int .i64 A.e, .int .i64 A.r, .int .i64 A.b, .int .i64 0, .int .i64 0] 54) := ⟨_, rfl⟩
      have hB : Below W2.heap.size W2 W3 := by rw [hA0]; exact (Below.refl _ _).alloc (Nat.le_refl _) _
      have hS0 : W3.heap.size = Q + 1 := by rw [hA0]; simp [← hQ]
      have HQ := Lib.hid (show Blk W3 Q #[.int .i64 A.e, .int .i64 A.r, .int .i64 A.b, .int .i64 0, .int .i64 0] 54 by rw [hA0, hQ]; exact blk_new _ _ _)
      replace HB := Lib.hid (HB.out.trans (hB.mono HB.out.size))
      replace HL := Lib.hid (HL0.out.below HB.out)
      replace HO := Lib.hid (HO.out.step hB)
      replace HK := Lib.hid (HK.out.step hB)
      replace HT2 := Lib.hid (HT2.out.step hB)
      clear hB
      have HSQ := Lib.hid hS0
      rw [← hQ, ← hA0]
      clear hA0 hQ hS0
      have qQ0 : W3.cell? ⟨Q, 0, none⟩ = some (.int .i64 A.e) := cell_at HQ.out 0
      have qQ1 : W3.cell? ⟨Q, 1, none⟩ = some (.int .i64 A.r) := cell_at HQ.out 1
      have qQ2 : W3.cell? ⟨Q, 2, none⟩ = some (.int .i64 A.b) := cell_at HQ.out 2
      have qQ3 : W3.cell? ⟨Q, 3, none⟩ = some (.int .i64 0) := cell_at HQ.out 3
      have qQ4 : W3.cell? ⟨Q, 4, none⟩ = some (.int .i64 0) := cell_at HQ.out 4
      have qQz : ∀ j, W3.frozen? ⟨Q, j, none⟩ = false := fun j => free_at HQ.out j
      have qQl : Q < W3.heap.size := HQ.out.lt
      by_cases hka : (k : Int) = pa
      · skip
        have e1 : ((k : Int) == pa) = true := by simp; omega
        have HKA := Lib.hid hka
        clear hka
        go_upto_region 16 with fail
        clear qQ0 qQ1 qQ2 qQ3 qQ4 qQz qQl
        obtain ⟨W4, hWS⟩ : ∃ WS, WS = W3.setCell ⟨Q, 4, none⟩ (.int .i64 1) := ⟨_, rfl⟩
        rw [← hWS]
        have hfS : Fr [Q] W3 W4 := by rw [hWS]; exact (Fr.refl _ _).setCell _ (.inl (by simp)) _
        have hkS : Blk W4 Q #[.int .i64 A.e, .int .i64 A.r, .int .i64 A.b, .int .i64 0, .int .i64 1] 54 := by rw [hWS]; exact HQ.out.set 4 _
        replace HB := Lib.hid (HB.out.trans (hfS.below HB.out.size (by have := HLOQ.out; simp; try omega)))
        replace HL := Lib.hid (HL0.out.below HB.out)
        replace HO := Lib.hid (HO.out.frT HQ.out hfS (by decide))
        replace HK := Lib.hid (show Blk W4 N #[.int .i8 x.kind, .int .i64 x.client, .int .i64 x.number, .int .i64 x.tenant, .int .i64 x.crate, .int .i64 x.cburst, .int .i64 x.shaper, .int .i64 x.epoch, .int .i64 x.clease, .int .i64 x.csize, .int .i64 x.spent, .bool x.closed, .slice x.lsa x.lsn x.lsc] 51 from (hfS.block _ HK.out.lt (by have hx0 := HXQHK.out; simp; try omega)).trans HK.out)
        replace HT2 := Lib.hid (HT2.out.frT HQ.out hfS (by decide))
        replace HQ := Lib.hid (show Blk W4 Q #[.int .i64 A.e, .int .i64 A.r, .int .i64 A.b, .int .i64 0, .int .i64 1] 54 from hkS)
        clear hWS hfS hkS
        have HRX := Lib.hid (show W4.rangeAt N 0 [.int .i8 x.kind, .int .i64 x.client, .int .i64 x.number, .int .i64 x.tenant, .int .i64 x.crate, .int .i64 x.cburst, .int .i64 x.shaper, .int .i64 x.epoch, .int .i64 x.clease, .int .i64 x.csize, .int .i64 x.spent, .bool x.closed, .slice x.lsa x.lsn x.lsc] from blk_range (cs := [.int .i8 x.kind, .int .i64 x.client, .int .i64 x.number, .int .i64 x.tenant, .int .i64 x.crate, .int .i64 x.cburst, .int .i64 x.shaper, .int .i64 x.epoch, .int .i64 x.clease, .int .i64 x.csize, .int .i64 x.spent, .bool x.closed, .slice x.lsa x.lsn x.lsc]) HK.out)
        have qQ0 : W4.cell? ⟨Q, 0, none⟩ = some (.int .i64 A.e) := cell_at HQ.out 0
        have qQ1 : W4.cell? ⟨Q, 1, none⟩ = some (.int .i64 A.r) := cell_at HQ.out 1
        have qQ2 : W4.cell? ⟨Q, 2, none⟩ = some (.int .i64 A.b) := cell_at HQ.out 2
        have qQ3 : W4.cell? ⟨Q, 3, none⟩ = some (.int .i64 0) := cell_at HQ.out 3
        have qQ4 : W4.cell? ⟨Q, 4, none⟩ = some (.int .i64 1) := cell_at HQ.out 4
        have qQz : ∀ j, W4.frozen? ⟨Q, j, none⟩ = false := fun j => free_at HQ.out j
        have qQl : Q < W4.heap.size := HQ.out.lt
        have hB9 : Below W4.heap.size W4 (W4.alloc (.cells #[.int .i8 x.kind, .int .i64 x.client, .int .i64 x.number, .int .i64 x.tenant, .int .i64 x.crate, .int .i64 x.cburst, .int .i64 x.shaper, .int .i64 x.epoch, .int .i64 x.clease, .int .i64 x.csize, .int .i64 x.spent, .bool x.closed, .slice x.lsa x.lsn x.lsc, .int .i64 (2 * (k : Int) + 1), .int .i64 (2 * (k : Int) + 2), .int .i64 A.e, .int .i64 A.r, .int .i64 A.b, .int .i64 0, .int .i64 1] 67)) := (Below.refl _ _).alloc (Nat.le_refl _) _
        have hok : (mkCa x (2 * (k : Int) + 1) (2 * (k : Int) + 2) A.e A.r A.b 0 1).ok := by
          have hx := HXO.out
          have hd := do_ok (t := tabC C k) (k := x.kind) (n := x.tenant) (r := x.crate) (b := x.cburst) HTOK.out hx.2.2.2.2.1 hx.2.2.2.2.2.1
          rw [show doF (tabC C k) x.kind x.tenant x.crate x.cburst = A from HA.out.symm] at hd
          have h7 := HLT.out
          obtain ⟨k1, k2, k3, k4, k5, k6, k7, k8, k9, k10, k11, k12, k13⟩ := hx
          exact ⟨k1, k2, k3, k4, k5, k6, k7, k8, k9, k10, k11, k12, k13, by simp only [mkCa]; omega, by simp only [mkCa]; omega, by simp only [mkCa]; omega, by simp only [mkCa]; omega, by simp only [mkCa]; omega, by simp only [mkCa]; omega, by simp only [mkCa]; omega⟩
        obtain ⟨v3, ob3, W5, hrun, hio, hlo, hkp⟩ := ca_push (ty := 52) (b := W4.heap.size) (x := (mkCa x (2 * (k : Int) + 1) (2 * (k : Int) + 2) A.e A.r A.b 0 1)) (HO.out.step hB9) (blk_new _ _ _) hok (by have := HB.out.size; have := hB9.size; omega) (by rw [oneL_len]; have := HLT.out; omega)
        have hrun' : (Builtin.append_ #[52, 52] 52 #[.slice va vn vc, .slice (some ⟨W4.heap.size, 0, none⟩) 1 1]).run Try.prog (W4.alloc (.cells #[.int .i8 x.kind, .int .i64 x.client, .int .i64 x.number, .int .i64 x.tenant, .int .i64 x.crate, .int .i64 x.cburst, .int .i64 x.shaper, .int .i64 x.epoch, .int .i64 x.clease, .int .i64 x.csize, .int .i64 x.spent, .bool x.closed, .slice x.lsa x.lsn x.lsc, .int .i64 (2 * (k : Int) + 1), .int .i64 (2 * (k : Int) + 2), .int .i64 A.e, .int .i64 A.r, .int .i64 A.b, .int .i64 0, .int .i64 1] 67)) = .ok v3 W5 := hrun
        have HRUN := Lib.hid hrun'
        have hone : oneL C pa (k + 1) = oneL C pa k ++ [(mkCa x (2 * (k : Int) + 1) (2 * (k : Int) + 2) A.e A.r A.b 0 1)] := by rw [oneL_succ]; unfold oneC; rw [HXE.out, ← HA.out, if_pos HKA.out]
        have HOR : Hid (CaO w.heap.size W5 v3 ob3 (oneL C pa (k + 1))) := Lib.hid (by rw [hone]; exact hio)
        have HT3 : Hid (FcO 0 W5 (.slice a2 n2 c2) ob2 (tabC C (k + 1))) := Lib.hid (by
          have h := (HT2.out.step hB9).keepT hkp
          rw [HA.out] at h
          show FcO 0 W5 (.slice a2 n2 c2) ob2 (cmA (tabC C k) (gCm C k)).l
          rw [HXE.out]
          exact h)
        have HB9 := Lib.hid ((HB.out.trans (hB9.mono HB.out.size)).trans hlo)
        clear hB9 hok hrun hrun' hio hlo hkp hone
        have w2 : IntKind.i64.wrap (2 * (k : Int)) = 2 * (k : Int) := IntWalk.i64_in _ (by have := HLT.out; omega)
        have w3 : IntKind.i64.wrap (2 * (k : Int) + 1) = 2 * (k : Int) + 1 := IntWalk.i64_in _ (by have := HLT.out; omega)
        have w4 : IntKind.i64.wrap (2 * (k : Int) + 2) = 2 * (k : Int) + 2 := IntWalk.i64_in _ (by have := HLT.out; omega)
        go_wp2_with (first | (refine wpList_load_mid rfl 51 (.tmp 9) rfl N 0 rfl [.int .i8 x.kind, .int .i64 x.client, .int .i64 x.number, .int .i64 x.tenant, .int .i64 x.crate, .int .i64 x.cburst, .int .i64 x.shaper, .int .i64 x.epoch, .int .i64 x.clease, .int .i64 x.csize, .int .i64 x.spent, .bool x.closed, .slice x.lsa x.lsn x.lsc] _ (by exact HRX.out) Try.underlying51 rfl (by kernel_rfl) ?_) | (at_builtin; refine Lib.wpList_append_run _ rfl (.tmp 60) (.tmp 70) 52 52 rfl _ _ rfl rfl _ _ HRUN.out ?_))
        go_roundw
        case rel => exact ⟨k + 1, ob2, ob3, by have := HLT.out; omega, by go_num, by rw [decide_eq_true (by have := HKA.out; omega)], HT3.out, HOR.out, HCM.out, HB9.out⟩
        case measure => (have h8 := HLT.out; first | (simp [intOf]; done) | (simp [intOf]; omega))
      have e1 : ((k : Int) == pa) = false := by simp; omega
      have HKA := Lib.hid hka
      clear hka
      go_upto_region 16 with fail
      have HRX := Lib.hid (show W3.rangeAt N 0 [.int .i8 x.kind, .int .i64 x.client, .int .i64 x.number, .int .i64 x.tenant, .int .i64 x.crate, .int .i64 x.cburst, .int .i64 x.shaper, .int .i64 x.epoch, .int .i64 x.clease, .int .i64 x.csize, .int .i64 x.spent, .bool x.closed, .slice x.lsa x.lsn x.lsc] from blk_range (cs := [.int .i8 x.kind, .int .i64 x.client, .int .i64 x.number, .int .i64 x.tenant, .int .i64 x.crate, .int .i64 x.cburst, .int .i64 x.shaper, .int .i64 x.epoch, .int .i64 x.clease, .int .i64 x.csize, .int .i64 x.spent, .bool x.closed, .slice x.lsa x.lsn x.lsc]) HK.out)
      clear qQ0 qQ1 qQ2 qQ3 qQ4 qQz qQl
      have qQ0 : W3.cell? ⟨Q, 0, none⟩ = some (.int .i64 A.e) := cell_at HQ.out 0
      have qQ1 : W3.cell? ⟨Q, 1, none⟩ = some (.int .i64 A.r) := cell_at HQ.out 1
      have qQ2 : W3.cell? ⟨Q, 2, none⟩ = some (.int .i64 A.b) := cell_at HQ.out 2
      have qQ3 : W3.cell? ⟨Q, 3, none⟩ = some (.int .i64 0) := cell_at HQ.out 3
      have qQ4 : W3.cell? ⟨Q, 4, none⟩ = some (.int .i64 0) := cell_at HQ.out 4
      have qQz : ∀ j, W3.frozen? ⟨Q, j, none⟩ = false := fun j => free_at HQ.out j
      have qQl : Q < W3.heap.size := HQ.out.lt
      have hB9 : Below W3.heap.size W3 (W3.alloc (.cells #[.int .i8 x.kind, .int .i64 x.client, .int .i64 x.number, .int .i64 x.tenant, .int .i64 x.crate, .int .i64 x.cburst, .int .i64 x.shaper, .int .i64 x.epoch, .int .i64 x.clease, .int .i64 x.csize, .int .i64 x.spent, .bool x.closed, .slice x.lsa x.lsn x.lsc, .int .i64 (2 * (k : Int) + 1), .int .i64 (2 * (k : Int) + 2), .int .i64 A.e, .int .i64 A.r, .int .i64 A.b, .int .i64 0, .int .i64 0] 67)) := (Below.refl _ _).alloc (Nat.le_refl _) _
      have hok : (mkCa x (2 * (k : Int) + 1) (2 * (k : Int) + 2) A.e A.r A.b 0 0).ok := by
        have hx := HXO.out
        have hd := do_ok (t := tabC C k) (k := x.kind) (n := x.tenant) (r := x.crate) (b := x.cburst) HTOK.out hx.2.2.2.2.1 hx.2.2.2.2.2.1
        rw [show doF (tabC C k) x.kind x.tenant x.crate x.cburst = A from HA.out.symm] at hd
        have h7 := HLT.out
        obtain ⟨k1, k2, k3, k4, k5, k6, k7, k8, k9, k10, k11, k12, k13⟩ := hx
        exact ⟨k1, k2, k3, k4, k5, k6, k7, k8, k9, k10, k11, k12, k13, by simp only [mkCa]; omega, by simp only [mkCa]; omega, by simp only [mkCa]; omega, by simp only [mkCa]; omega, by simp only [mkCa]; omega, by simp only [mkCa]; omega, by simp only [mkCa]; omega⟩
      obtain ⟨v3, ob3, W4, hrun, hio, hlo, hkp⟩ := ca_push (ty := 52) (b := W3.heap.size) (x := (mkCa x (2 * (k : Int) + 1) (2 * (k : Int) + 2) A.e A.r A.b 0 0)) (HO.out.step hB9) (blk_new _ _ _) hok (by have := HB.out.size; have := hB9.size; omega) (by rw [oneL_len]; have := HLT.out; omega)
      have hrun' : (Builtin.append_ #[52, 52] 52 #[.slice va vn vc, .slice (some ⟨W3.heap.size, 0, none⟩) 1 1]).run Try.prog (W3.alloc (.cells #[.int .i8 x.kind, .int .i64 x.client, .int .i64 x.number, .int .i64 x.tenant, .int .i64 x.crate, .int .i64 x.cburst, .int .i64 x.shaper, .int .i64 x.epoch, .int .i64 x.clease, .int .i64 x.csize, .int .i64 x.spent, .bool x.closed, .slice x.lsa x.lsn x.lsc, .int .i64 (2 * (k : Int) + 1), .int .i64 (2 * (k : Int) + 2), .int .i64 A.e, .int .i64 A.r, .int .i64 A.b, .int .i64 0, .int .i64 0] 67)) = .ok v3 W4 := hrun
      have HRUN := Lib.hid hrun'
      have hone : oneL C pa (k + 1) = oneL C pa k ++ [(mkCa x (2 * (k : Int) + 1) (2 * (k : Int) + 2) A.e A.r A.b 0 0)] := by rw [oneL_succ]; unfold oneC; rw [HXE.out, ← HA.out, if_neg HKA.out]
      have HOR : Hid (CaO w.heap.size W4 v3 ob3 (oneL C pa (k + 1))) := Lib.hid (by rw [hone]; exact hio)
      have HT3 : Hid (FcO 0 W4 (.slice a2 n2 c2) ob2 (tabC C (k + 1))) := Lib.hid (by
        have h := (HT2.out.step hB9).keepT hkp
        rw [HA.out] at h
        show FcO 0 W4 (.slice a2 n2 c2) ob2 (cmA (tabC C k) (gCm C k)).l
        rw [HXE.out]
        exact h)
      have HB9 := Lib.hid ((HB.out.trans (hB9.mono HB.out.size)).trans hlo)
      clear hB9 hok hrun hrun' hio hlo hkp hone
      have w2 : IntKind.i64.wrap (2 * (k : Int)) = 2 * (k : Int) := IntWalk.i64_in _ (by have := HLT.out; omega)
      have w3 : IntKind.i64.wrap (2 * (k : Int) + 1) = 2 * (k : Int) + 1 := IntWalk.i64_in _ (by have := HLT.out; omega)
      have w4 : IntKind.i64.wrap (2 * (k : Int) + 2) = 2 * (k : Int) + 2 := IntWalk.i64_in _ (by have := HLT.out; omega)
      go_wp2_with (first | (refine wpList_load_mid rfl 51 (.tmp 9) rfl N 0 rfl [.int .i8 x.kind, .int .i64 x.client, .int .i64 x.number, .int .i64 x.tenant, .int .i64 x.crate, .int .i64 x.cburst, .int .i64 x.shaper, .int .i64 x.epoch, .int .i64 x.clease, .int .i64 x.csize, .int .i64 x.spent, .bool x.closed, .slice x.lsa x.lsn x.lsc] _ (by exact HRX.out) Try.underlying51 rfl (by kernel_rfl) ?_) | (at_builtin; refine Lib.wpList_append_run _ rfl (.tmp 60) (.tmp 70) 52 52 rfl _ _ rfl rfl _ _ HRUN.out ?_))
      go_roundw
      case rel => exact ⟨k + 1, ob2, ob3, by have := HLT.out; omega, by go_num, by rw [HBD.out]; congr 1; exact decide_eq_decide.2 (by have := HKA.out; omega), HT3.out, HOR.out, HCM.out, HB9.out⟩
      case measure => (have h8 := HLT.out; first | (simp [intOf]; done) | (simp [intOf]; omega))
    obtain rfl : k = n := by omega
    have hn12 : k ≤ 12 := by omega
    obtain ⟨f1, f2, f3⟩ := oneL_fits C pa k hn12 HCC.out
    have HFI := Lib.hid (fun W (h : CaV W (.slice va vn vc) (oneL C pa k)) => fits_any _ (oneL C pa k) W h)
    rw [f1, f2, f3, ← HBD.out] at HFI
    have hO : (if 0 ≤ pa ∧ pa < (k : Int) then ([] : List Int) else (List.range k).map fun (j : Nat) => (j : Int)) = if bd = true then [] else (List.range k).map fun (j : Nat) => (j : Int) := by
      rw [HBD.out]
      by_cases h : 0 ≤ pa ∧ pa < (k : Int)
      · rw [if_pos h, if_pos (decide_eq_true h)]
      · rw [if_neg h, if_neg (by rw [decide_eq_false h]; simp)]
    rw [hO] at HFI
    obtain ⟨O, hOO⟩ : ∃ O : List Int, O = if bd = true then [] else (List.range k).map fun (j : Nat) => (j : Int) := ⟨_, rfl⟩
    rw [← hOO] at HFI
    have HOE : Hid (∀ (j : Nat) (x : Int), O[j]? = some x → x = (j : Int)) := Lib.hid (fun j x hx => by
      rw [hOO] at hx
      cases bd
      · rw [if_neg (by simp)] at hx
        rw [List.getElem?_map] at hx
        obtain ⟨q, hq, rfl⟩ := Option.map_eq_some_iff.1 hx
        have hj := (List.getElem?_eq_some_iff.1 hq).1
        rw [List.getElem?_eq_getElem hj, List.getElem_range] at hq
        obtain rfl := Option.some.inj hq
        rfl
      · rw [if_pos rfl] at hx
        simp at hx)
    have HOL : Hid (bd = false → O.length = k) := Lib.hid (fun h => by rw [hOO, h, if_neg (by simp)]; simp)
    clear f1 f2 f3 hO hOO
    go_wp2_with fail
    go_at_call 27
    go_fit (HFI.out _ HO.out.v)
    rintro e W1 ⟨v1, ob1, rfl, hv1, hB⟩
    replace HB := Lib.hid (HB.out.trans (hB.mono HB.out.size))
    replace HL := Lib.hid (HL0.out.below HB.out)
    replace HT := Lib.hid (HT.out.step hB)
    replace HO := Lib.hid (HO.out.step hB)
    clear hB
    obtain ⟨a1, n1, c1, rfl, H1, q11, q12⟩ := hv1.v.sh
    have HV1 := Lib.hid hv1.v
    have hnb : ((!bd) == bd) = false := by cases bd <;> rfl
    have ww9 : n1 ≤ 9223372036854775807 := by omega
    clear hv1 HFI
    go_wp2_with fail
    go_loopw [15, 88] (fun _ i wq => ∃ j : Nat, j ≤ n1 ∧ i = .int .i64 j ∧ InV wq (.slice a1 n1 c1) O ∧ Below w.heap.size w wq) (fun _ i _ => n1 - (intOf i).toNat)
    case atStart => exact ⟨0, Nat.zero_le _, rfl, HV1.out, HB.out⟩
    case round =>
      clear HB HL HV1 HT HO
      obtain ⟨j, hj, rfl, h1, hB⟩ := hrel
      have HB := Lib.hid hB
      have HV1 := Lib.hid h1
      clear hB h1
      by_cases hlt : j < n1
      · obtain ⟨g, o, x, ea, g1, hx, c0⟩ := HV1.out.at j hlt
        subst ea
        obtain rfl : x = (j : Int) := HOE.out j x hx
        have e1 : ((j : Int) != (j : Int)) = false := by simp
        have ww5 : IntKind.i64.wrap ((j : Int) + 1) = (j : Int) + 1 := IntWalk.i64_in _ (by omega)
        have b9 : ((j : Int) < (n1 : Int)) = True := eq_true (by omega)
        have bk1 : (j < n1) = True := eq_true hlt
        have HLT := Lib.hid hlt
        clear hx hlt
        go_wp2_with fail
        go_roundw
        case rel => exact ⟨j + 1, by have := HLT.out; omega, by go_num, HV1.out, HB.out⟩
        case measure => (have h8 := HLT.out; first | (simp [intOf]; done) | (simp [intOf]; omega))
      · obtain rfl : j = n1 := by omega
        cases bd
        · have hnn : j = k := by rw [H1.out, HOL.out rfl]
          subst hnn
          go_wp2_with fail
          go_at_call 19
          go_fit (HWK.out _)
          rintro e W61 ⟨rfl, hB⟩
          replace HB := Lib.hid (HB.out.trans (hB.mono HB.out.size))
          clear hB
          go_wp2_with fail
          try rw [Exit.noGoto_ret]
          go_ret
          exact ⟨rfl, HB.out⟩
        · skip
          go_wp2_with fail
          go_at_call 19
          go_fit (HWK.out _)
          rintro e W61 ⟨rfl, hB⟩
          replace HB := Lib.hid (HB.out.trans (hB.mono HB.out.size))
          clear hB
          go_wp2_with fail
          try rw [Exit.noGoto_ret]
          go_ret
          exact ⟨rfl, HB.out⟩
theorem oneByOne_dt (a : Option Addr) (n c : Nat) (xs : List Dt) (pa : Int) (w : World) (h : SliceFits Try.prog w 51 a n c xs) (hpa : -9223372036854775808 ≤ pa ∧ pa ≤ 9223372036854775807) : Calls Try.prog 8 #[.slice a n c, .int .i64 pa] w fun e w' => e = .returned (.bool true) ∧ Below w.heap.size w w' := by
  obtain ⟨L, _, hL⟩ := cmv_cells w h
  exact oneByOne_walk _ L pa w hL hpa
end Go.Proofs.Ythmjlomlceljkaa
