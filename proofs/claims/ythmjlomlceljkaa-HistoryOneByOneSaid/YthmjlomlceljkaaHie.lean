/-
  A search.
-/
import Derived.Test.YthmjlomlceljkaaHid
import Derived.Test.YthmjlomlceljkaaHib
import Derived.Test.YthmjlomlceljkaaHi5
import Derived.Test.YthmjlomlceljkaaHi6
import Derived.Deep.DeepFit
import Derived.Lib.AppendZeros
import Derived.Deep.RegionLaw
import Derived.Deep.RegionWith
import Derived.Lib.EndianBits
import Derived.Deep.MidRow
namespace Go.Proofs.Ythmjlomlceljkaa
open Go.RowKit
set_option linter.unusedSimpArgs false
set_option linter.unusedVariables false

/-- what a search tells, and leaves -/
def SQ (w0 : World) (bm mp bl bo bs : Nat) (vl : Value) (L : List CaE) (S : Nat × List UInt8 → Bool) (ord : List Int) (D : Nat) (t : List FcE) (w : World) (e : Ending) (w' : World) : Prop := ∃ b, e = .returned (.bool b) ∧ SP w0 bm mp bl bo bs vl L S ord D t w b w'
set_option maxRecDepth 100000 in
set_option maxHeartbeats 40000000 in
theorem search_any (w0 : World) (bm mp bl bo bs : Nat) (vl : Value) (L : List CaE) (hL : L.length ≤ 12) : ∀ (m : Nat) (D : Nat) (t : List FcE) (v : Value) (ot : Option Nat) (S0 : Nat × List UInt8 → Bool) (vo : Value) (obo : Option Nat) (ord : List Int) (w : World),
    free D L.length < m → D < 4096 → tblB 0 t = true → FcO 0 w v ot t → SE w0 w bm mp bl bo bs vl L S0 vo obo ord → Good L S0 D → ord.length + free D L.length ≤ 12 →
    Calls Try.prog 55 #[.int .u64 (D : Nat), v, .pointer (some ⟨bm, 0, none⟩), .pointer (some ⟨bl, 0, none⟩), .pointer (some ⟨bo, 0, none⟩), .pointer (some ⟨bs, 0, none⟩)] w fun e w' => SQ w0 bm mp bl bo bs vl L S0 ord D t w e w' := by
  intro m
  induction m with
  | zero => intro D t v ot S0 vo obo ord w hf; omega
  | succ m ih =>
    intro D t v ot S0 vo obo ord w hf hD ht hv hE hg hlen
    have HT := Lib.hid hv
    have HE := Lib.hid hE
    have HS : Hid (SF w0.heap.size w w) := Lib.hid (SF.refl _ _)
    have HTB := Lib.hid ht
    have HG := Lib.hid hg
    have HF := Lib.hid hf
    have HD := Lib.hid hD
    have HLEN := Lib.hid hlen
    have HL := Lib.hid hL
    have IH := Lib.hid ih
    obtain ⟨a, n, cap, rfl, HN, m1, m2⟩ := hE.hl.sh
    have hn12 : n ≤ 12 := by have := HN.out; omega
    clear hv hE hg hf hlen hL ih
    go_enter Try.func55, Try.ntmps55
    go_wp2_with fail
    go_step3
    go_wp2_with fail
    go_at_call 56
    go_fit (bytes_any v t _ HT.out.v HTB.out)
    rintro e W1 ⟨rfl, hB⟩
    replace HS := Lib.hid (HS.out.trans (SF.of_below hB HE.out.lo.size))
    replace HE := Lib.hid (HE.out.sf hB)
    replace HT := Lib.hid (HT.out.step hB)
    clear hB
    go_upto_region 2 with fail
    obtain ⟨N, hN⟩ : ∃ n0, n0 = W1.heap.size := ⟨_, rfl⟩
    obtain ⟨W2, hA⟩ : ∃ W0, W0 = W1.alloc (.cells #[.int .u64 (D : Nat), .string ⟨(encB t).toArray⟩] 104) := ⟨_, rfl⟩
    have hB : Below W1.heap.size W1 W2 := by rw [hA]; exact (Below.refl _ _).alloc (Nat.le_refl _) _
    have HK := Lib.hid (show Blk W2 N #[.int .u64 (D : Nat), .string ⟨(encB t).toArray⟩] 104 by rw [hA, hN]; exact blk_new _ _ _)
    rw [← hN, ← hA]
    clear hA hN
    replace HS := Lib.hid (HS.out.trans (SF.of_below hB HE.out.lo.size))
    replace HE := Lib.hid (HE.out.sf hB)
    replace HT := Lib.hid (HT.out.step hB)
    clear hB
    have em : W2.cell? ⟨bm, 0, none⟩ = some (.map (some mp)) := cell_at HE.out.cm 0
    have el : W2.cell? ⟨bl, 0, none⟩ = some (.slice a n cap) := cell_at HE.out.cl 0
    have es : W2.cell? ⟨bs, 0, none⟩ = some (.func (.func 55) #[] #[.pointer (some ⟨bm, 0, none⟩), .pointer (some ⟨bl, 0, none⟩), .pointer (some ⟨bo, 0, none⟩), .pointer (some ⟨bs, 0, none⟩)]) := cell_at HE.out.cs 0
    have eo : W2.cell? ⟨bo, 0, none⟩ = some (vo) := cell_at HE.out.co 0
    have qK0 : W2.cell? ⟨N, 0, none⟩ = some (.int .u64 (D : Nat)) := cell_at HK.out 0
    have qK1 : W2.cell? ⟨N, 1, none⟩ = some (.string ⟨(encB t).toArray⟩) := cell_at HK.out 1
    have qKz : ∀ j, W2.frozen? ⟨N, j, none⟩ = false := fun j => free_at HK.out j
    have qKl : N < W2.heap.size := HK.out.lt
    have hlk := seen_look HE.out.map D (encB t)
    obtain ⟨C, hC⟩ : ∃ C, C = S0 (D, encB t) := ⟨_, rfl⟩
    rw [← hC] at hlk
    have HC := Lib.hid hC
    clear hC
    go_upto_region 3 with fail
    clear hlk
    clear em el es eo qK0 qK1 qKz qKl
    obtain ⟨Q, hQ⟩ : ∃ n0, n0 = W2.heap.size := ⟨_, rfl⟩
    obtain ⟨W3, hA⟩ : ∃ W0, W0 = W2.alloc (.cells #[] 105) := ⟨_, rfl⟩
    have hB : Below W2.heap.size W2 W3 := by rw [hA]; exact (Below.refl _ _).alloc (Nat.le_refl _) _
    have HQ9 := Lib.hid (show Blk W3 Q #[] 105 by rw [hA, hQ]; exact blk_new _ _ _)
    rw [← hQ, ← hA]
    clear hA hQ
    replace HS := Lib.hid (HS.out.trans (SF.of_below hB HE.out.lo.size))
    replace HE := Lib.hid (HE.out.sf hB)
    replace HT := Lib.hid (HT.out.step hB)
    replace HK := Lib.hid (HK.out.step hB)
    clear hB
    clear HQ9
    cases C
    rotate_left
    · skip
      have hn : sr L D t = none := by
        rcases HG.out D t HTB.out HC.out.symm with h | h
        · exact h
        · omega
      go_wp2_with fail
      try rw [Exit.noGoto_ret]
      go_ret
      exact ⟨_, rfl, sp_none HE.out HS.out hn (New.refl _ _)⟩
    have em : W3.cell? ⟨bm, 0, none⟩ = some (.map (some mp)) := cell_at HE.out.cm 0
    have el : W3.cell? ⟨bl, 0, none⟩ = some (.slice a n cap) := cell_at HE.out.cl 0
    have es : W3.cell? ⟨bs, 0, none⟩ = some (.func (.func 55) #[] #[.pointer (some ⟨bm, 0, none⟩), .pointer (some ⟨bl, 0, none⟩), .pointer (some ⟨bo, 0, none⟩), .pointer (some ⟨bs, 0, none⟩)]) := cell_at HE.out.cs 0
    have eo : W3.cell? ⟨bo, 0, none⟩ = some (vo) := cell_at HE.out.co 0
    have HIA := Lib.hid (fun W (h : CaV W (.slice a n cap) L) => isAll_any D _ L W h HD.out HL.out)
    obtain ⟨C2, hC2⟩ : ∃ C, C = alB D 0 L := ⟨_, rfl⟩
    rw [← hC2] at HIA
    have HC2 := Lib.hid hC2
    clear hC2
    go_wp2_with fail
    go_at_call 54
    go_fit (HIA.out _ (HE.out.hl.below HE.out.lo))
    rintro e W4 ⟨rfl, hB⟩
    clear em el es eo
    replace HS := Lib.hid (HS.out.trans (SF.of_below hB HE.out.lo.size))
    replace HE := Lib.hid (HE.out.sf hB)
    replace HT := Lib.hid (HT.out.step hB)
    replace HK := Lib.hid (HK.out.step hB)
    clear hB
    clear HIA
    cases C2
    rotate_left
    · skip
      go_wp2_with fail
      try rw [Exit.noGoto_ret]
      go_ret
      exact ⟨_, rfl, sp_all HE.out HS.out HC2.out.symm⟩
    have em : W4.cell? ⟨bm, 0, none⟩ = some (.map (some mp)) := cell_at HE.out.cm 0
    have el : W4.cell? ⟨bl, 0, none⟩ = some (.slice a n cap) := cell_at HE.out.cl 0
    have es : W4.cell? ⟨bs, 0, none⟩ = some (.func (.func 55) #[] #[.pointer (some ⟨bm, 0, none⟩), .pointer (some ⟨bl, 0, none⟩), .pointer (some ⟨bo, 0, none⟩), .pointer (some ⟨bs, 0, none⟩)]) := cell_at HE.out.cs 0
    have eo : W4.cell? ⟨bo, 0, none⟩ = some (vo) := cell_at HE.out.co 0
    have qK0 : W4.cell? ⟨N, 0, none⟩ = some (.int .u64 (D : Nat)) := cell_at HK.out 0
    have qK1 : W4.cell? ⟨N, 1, none⟩ = some (.string ⟨(encB t).toArray⟩) := cell_at HK.out 1
    have qKz : ∀ j, W4.frozen? ⟨N, j, none⟩ = false := fun j => free_at HK.out j
    have qKl : N < W4.heap.size := HK.out.lt
    obtain ⟨W5, hput, hm9, hf9⟩ := seen_put HE.out.map D (encB t)
    have hs9 := SF.of_map HE.out.map hf9 HE.out.mm
    have HPUT := Lib.hid hput
    have HE9 := Lib.hid (HE.out.put hf9 hm9)
    have HT9 := Lib.hid (hs9.fco HT.out)
    have HS9 := Lib.hid (HS.out.trans hs9)
    clear hm9 hf9 hs9 HPUT
    go_upto_region 8 with fail
    clear hput
    clear em el es eo qK0 qK1 qKz qKl
    clear HE HT HS HK
    have HE := HE9
    have HT := HT9
    have HS := HS9
    clear HE9 HT9 HS9
    have HN2 : Hid (New2 L S0 (fun y => decide (y = (D, encB t)) || S0 y) D t) := Lib.hid (new2_add HTB.out)
    obtain ⟨S1, hS1⟩ : ∃ S : Nat × List UInt8 → Bool, S = fun y => decide (y = (D, encB t)) || S0 y := ⟨_, rfl⟩
    rw [← hS1] at HE HN2
    clear hS1
    have HSR : Hid (sr L D t = srL (sr L) L D t 0 L) := Lib.hid (by rw [sr_eq, if_neg (by rw [← HC2.out]; simp)])
    have em : W5.cell? ⟨bm, 0, none⟩ = some (.map (some mp)) := cell_at HE.out.cm 0
    have el : W5.cell? ⟨bl, 0, none⟩ = some (.slice a n cap) := cell_at HE.out.cl 0
    have es : W5.cell? ⟨bs, 0, none⟩ = some (.func (.func 55) #[] #[.pointer (some ⟨bm, 0, none⟩), .pointer (some ⟨bl, 0, none⟩), .pointer (some ⟨bo, 0, none⟩), .pointer (some ⟨bs, 0, none⟩)]) := cell_at HE.out.cs 0
    have eo : W5.cell? ⟨bo, 0, none⟩ = some (vo) := cell_at HE.out.co 0
    go_step3
    go_wp2_with fail
    clear em el es eo
    go_loopw [12, 13, 14, 34] (fun _ _ _ i wr => ∃ (k : Nat) (S' : Nat × List UInt8 → Bool) (vo' : Value) (obo' : Option Nat), k ≤ n ∧ i = .int .i64 k ∧ SE w0 wr bm mp bl bo bs (.slice a n cap) L S' vo' obo' ord ∧ SF w0.heap.size w wr ∧ FcO 0 wr v ot t ∧ srL (sr L) L D t k (L.drop k) = sr L D t ∧ New2 L S0 S' D t) (fun _ _ _ i _ => n - (intOf i).toNat)
    case atStart => exact ⟨0, S1, vo, obo, Nat.zero_le _, rfl, HE.out, HS.out, HT.out, HSR.out.symm, HN2.out⟩
    case round =>
      clear HE HS HT HN2 S1
      obtain ⟨k, S1, vo, obo, hk, rfl, hE, hS, hT, hr, hN⟩ := hrel
      have HE := Lib.hid hE
      have HS := Lib.hid hS
      have HT := Lib.hid hT
      have HR := Lib.hid hr
      have HN2 := Lib.hid hN
      clear hE hS hT hr hN
      by_cases hlt : k < n
      rotate_left
      · obtain rfl : k = n := by omega
        have hn : sr L D t = none := by rw [← HR.out, HN.out, List.drop_length]; rfl
        go_wp2_with fail
        try rw [Exit.noGoto_ret]
        go_ret
        exact ⟨_, rfl, sp_none HE.out HS.out hn (HN2.out.done hn)⟩
      obtain ⟨g, o, x, ea, g1, hx, hld, hrg⟩ := (HE.out.hl.below HE.out.lo).ld k hlt
      subst ea
      clear hld
      have hgx : gCa L k = x := gCa_of hx
      have HX := Lib.hid hx
      have HXG := Lib.hid hgx
      have HRG := Lib.hid (show Below w0.heap.size w0 wr → wr.rangeAt g (o + k * 20) x.cells from fun _ => hrg)
      have HRG0 := Lib.hid hrg
      have hst := srL_step (f := sr L) (L := L) (D := D) (t := t) (k := k) (by rw [← HN.out]; exact hlt)
      rw [hgx, HR.out] at hst
      have HST := Lib.hid hst
      have HH := Lib.hid (fun W => has_any D k W HD.out (by omega))
      have HM := Lib.hid (fun W (h : CaV W (.slice (some ⟨g, o, none⟩) n cap) L) => mayStand_any D k _ L W h HD.out HL.out (by rw [← HN.out]; exact hlt))
      rw [hgx] at HM
      obtain ⟨b1, hb1⟩ : ∃ b, b = D.testBit k := ⟨_, rfl⟩
      obtain ⟨b2, hb2⟩ : ∃ b, b = stB D x.fr 0 L := ⟨_, rfl⟩
      rw [← hb1] at HH
      rw [← hb2] at HM
      rw [← hb1, ← hb2] at HST
      have HB1 := Lib.hid hb1
      have HLT := Lib.hid hlt
      have ww5 : IntKind.i64.wrap ((k : Int) + 1) = (k : Int) + 1 := IntWalk.i64_in _ (by omega)
      have bk9 : ((k : Int) < (n : Int)) = True := eq_true (by omega)
      have bk1 : (k < n) = True := eq_true hlt
      clear hx hgx hrg HRG hst hb1 hb2 HR
      have em : wr.cell? ⟨bm, 0, none⟩ = some (.map (some mp)) := cell_at HE.out.cm 0
      have el : wr.cell? ⟨bl, 0, none⟩ = some (.slice (some ⟨g, o, none⟩) n cap) := cell_at HE.out.cl 0
      have es : wr.cell? ⟨bs, 0, none⟩ = some (.func (.func 55) #[] #[.pointer (some ⟨bm, 0, none⟩), .pointer (some ⟨bl, 0, none⟩), .pointer (some ⟨bo, 0, none⟩), .pointer (some ⟨bs, 0, none⟩)]) := cell_at HE.out.cs 0
      have eo : wr.cell? ⟨bo, 0, none⟩ = some (vo) := cell_at HE.out.co 0
      cases b1
      rotate_left
      · skip
        go_wp2_with (go_at_call 52; refine Calls.mono (HH.out _) ?_; rintro e w' ⟨rfl, rfl⟩)
        go_roundw
        case rel => exact ⟨k + 1, S1, vo, obo, by have := HLT.out; omega, by go_num, HE.out, HS.out, HT.out, by rw [HST.out]; simp, HN2.out⟩
        case measure => first | (simp [intOf]; done) | (simp [intOf]; omega)
      go_wp2_with fail
      go_at_call 52
      go_fit (HH.out _)
      rintro e w' ⟨rfl, rfl⟩
      go_wp2_with fail
      go_at_call 53
      go_fit (HM.out _ (HE.out.hl.below HE.out.lo))
      rintro e W6 ⟨rfl, hB⟩
      clear em el es eo
      replace HS := Lib.hid (HS.out.trans (SF.of_below hB HE.out.lo.size))
      replace HE := Lib.hid (HE.out.sf hB)
      replace HT := Lib.hid (HT.out.step hB)
      clear hB
      have em : W6.cell? ⟨bm, 0, none⟩ = some (.map (some mp)) := cell_at HE.out.cm 0
      have el : W6.cell? ⟨bl, 0, none⟩ = some (.slice (some ⟨g, o, none⟩) n cap) := cell_at HE.out.cl 0
      have es : W6.cell? ⟨bs, 0, none⟩ = some (.func (.func 55) #[] #[.pointer (some ⟨bm, 0, none⟩), .pointer (some ⟨bl, 0, none⟩), .pointer (some ⟨bo, 0, none⟩), .pointer (some ⟨bs, 0, none⟩)]) := cell_at HE.out.cs 0
      have eo : W6.cell? ⟨bo, 0, none⟩ = some (vo) := cell_at HE.out.co 0
      cases b2
      · skip
        go_wp2_with fail
        go_roundw
        case rel => exact ⟨k + 1, S1, vo, obo, by have := HLT.out; omega, by go_num, HE.out, HS.out, HT.out, by rw [HST.out]; simp, HN2.out⟩
        case measure => first | (simp [intOf]; done) | (simp [intOf]; omega)
      obtain ⟨A, hA⟩ : ∃ A, A = doC t x := ⟨_, rfl⟩
      rw [← hA] at HST
      have HDO := Lib.hid (fun W (h : FcV W v t) => do_any x v t W h (by have := tbl_len16 HTB.out; omega))
      rw [← hA] at HDO
      have HA := Lib.hid hA
      clear hA
      have HRG := Lib.hid ((HE.out.hl.below HE.out.lo).rg hlt HX.out)
      have HRG13 := Lib.hid (ca_range13 HRG.out)
      clear em el es eo
      have em : W6.cell? ⟨bm, 0, none⟩ = some (.map (some mp)) := cell_at HE.out.cm 0
      have el : W6.cell? ⟨bl, 0, none⟩ = some (.slice (some ⟨g, o, none⟩) n cap) := cell_at HE.out.cl 0
      have es : W6.cell? ⟨bs, 0, none⟩ = some (.func (.func 55) #[] #[.pointer (some ⟨bm, 0, none⟩), .pointer (some ⟨bl, 0, none⟩), .pointer (some ⟨bo, 0, none⟩), .pointer (some ⟨bs, 0, none⟩)]) := cell_at HE.out.cs 0
      have eo : W6.cell? ⟨bo, 0, none⟩ = some (vo) := cell_at HE.out.co 0
      go_wp2_with (refine wpList_load_mid rfl 51 (.tmp 52) rfl g (o + k * 20) rfl [.int .i8 x.kind, .int .i64 x.client, .int .i64 x.number, .int .i64 x.tenant, .int .i64 x.crate, .int .i64 x.cburst, .int .i64 x.shaper, .int .i64 x.epoch, .int .i64 x.clease, .int .i64 x.csize, .int .i64 x.spent, .bool x.closed, .slice x.lsa x.lsn x.lsc] _ (by exact HRG13.out) Try.underlying51 rfl (by kernel_rfl) ?_)
      go_at_call 20
      go_fit (HDO.out _ HT.out.v)
      rintro e W7 ⟨v2, ob2, rfl, ho2, hB⟩
      clear HRG HRG13 HDO HRG0
      clear em el es eo
      replace HS := Lib.hid (HS.out.trans (SF.of_below hB HE.out.lo.size))
      replace HE := Lib.hid (HE.out.sf hB)
      replace HT := Lib.hid (HT.out.step hB)
      clear hB
      have HT2 := Lib.hid (ho2.le (Nat.zero_le _))
      clear ho2
      go_upto_region 13 with fail
      obtain ⟨R, hR⟩ : ∃ n0, n0 = W7.heap.size := ⟨_, rfl⟩
      obtain ⟨W8, hA⟩ : ∃ W0, W0 = W7.alloc (.cells #[.int .i64 A.e, .int .i64 A.r, .int .i64 A.b, .int .i64 0, .int .i64 0] 54) := ⟨_, rfl⟩
      have hB : Below W7.heap.size W7 W8 := by rw [hA]; exact (Below.refl _ _).alloc (Nat.le_refl _) _
      have HR5 := Lib.hid (show Blk W8 R #[.int .i64 A.e, .int .i64 A.r, .int .i64 A.b, .int .i64 0, .int .i64 0] 54 by rw [hA, hR]; exact blk_new _ _ _)
      rw [← hR, ← hA]
      clear hA hR
      replace HS := Lib.hid (HS.out.trans (SF.of_below hB HE.out.lo.size))
      replace HE := Lib.hid (HE.out.sf hB)
      replace HT := Lib.hid (HT.out.step hB)
      replace HT2 := Lib.hid (HT2.out.step hB)
      clear hB
      have hrg := (HE.out.hl.below HE.out.lo).rg hlt HX.out
      have z14 : W8.cell? ⟨g, o + k * 20 + 14, none⟩ = some (.int .i64 x.til) := hrg 14 _ rfl
      have z15 : W8.cell? ⟨g, o + k * 20 + 15, none⟩ = some (.int .i64 x.e) := hrg 15 _ rfl
      have z16 : W8.cell? ⟨g, o + k * 20 + 16, none⟩ = some (.int .i64 x.rate) := hrg 16 _ rfl
      have z17 : W8.cell? ⟨g, o + k * 20 + 17, none⟩ = some (.int .i64 x.burst) := hrg 17 _ rfl
      have z18 : W8.cell? ⟨g, o + k * 20 + 18, none⟩ = some (.int .i64 x.lease) := hrg 18 _ rfl
      have z19 : W8.cell? ⟨g, o + k * 20 + 19, none⟩ = some (.int .i64 x.size) := hrg 19 _ rfl
      clear hrg
      have em : W8.cell? ⟨bm, 0, none⟩ = some (.map (some mp)) := cell_at HE.out.cm 0
      have el : W8.cell? ⟨bl, 0, none⟩ = some (.slice (some ⟨g, o, none⟩) n cap) := cell_at HE.out.cl 0
      have es : W8.cell? ⟨bs, 0, none⟩ = some (.func (.func 55) #[] #[.pointer (some ⟨bm, 0, none⟩), .pointer (some ⟨bl, 0, none⟩), .pointer (some ⟨bo, 0, none⟩), .pointer (some ⟨bs, 0, none⟩)]) := cell_at HE.out.cs 0
      have eo : W8.cell? ⟨bo, 0, none⟩ = some (vo) := cell_at HE.out.co 0
      have qR50 : W8.cell? ⟨R, 0, none⟩ = some (.int .i64 A.e) := cell_at HR5.out 0
      have qR51 : W8.cell? ⟨R, 1, none⟩ = some (.int .i64 A.r) := cell_at HR5.out 1
      have qR52 : W8.cell? ⟨R, 2, none⟩ = some (.int .i64 A.b) := cell_at HR5.out 2
      have qR53 : W8.cell? ⟨R, 3, none⟩ = some (.int .i64 0) := cell_at HR5.out 3
      have qR54 : W8.cell? ⟨R, 4, none⟩ = some (.int .i64 0) := cell_at HR5.out 4
      have qR5z : ∀ j, W8.frozen? ⟨R, j, none⟩ = false := fun j => free_at HR5.out j
      have qR5l : R < W8.heap.size := HR5.out.lt
      have hq := fun W => an_neq A.e A.r A.b 0 0 x.e x.rate x.burst x.lease x.size W
      obtain ⟨q, hqe⟩ : ∃ q, q = !(decide (A.e = x.e) && decide (A.r = x.rate) && decide (A.b = x.burst) && decide (0 = x.lease) && decide (0 = x.size)) := ⟨_, rfl⟩
      rw [← hqe] at hq
      have hne : neA x A = (decide (0 < x.til) && q) := by rw [hqe]; rfl
      rw [hne] at HST
      clear hqe hne
      by_cases t1 : 0 < x.til
      · skip
        have T1 := Lib.hid t1
        have q1 : decide (0 < x.til) = true := decide_eq_true t1
        rw [q1] at HST
        clear t1
        cases q
        rotate_left
        · skip
          go_wp2_with fail
          (refine wp_region_quiet_lit (by kernel_rfl) (by kernel_rfl) ?_; (repeat (first | go_big_quiet_step (fail) | (refine BigFrame.wpQuiet_skip (by rfl) ?_; try simp only [Act.put, List.setIfInBounds_toArray, List.set_cons_zero, List.set_cons_succ]))); refine wpQuiet_nil ?_; intro _ hw9; obtain ⟨nq, hw8⟩ := hw9; subst hw8)
          obtain ⟨W9, hWn⟩ : ∃ X, X = W8.drewN nq := ⟨_, rfl⟩
          rw [← hWn]
          have hB : Below W8.heap.size W8 W9 := by rw [hWn]; exact dN _ _
          clear hWn hq
          clear z14 z15 z16 z17 z18 z19 em el es eo qR50 qR51 qR52 qR53 qR54 qR5z qR5l
          replace HS := Lib.hid (HS.out.trans (SF.of_below hB HE.out.lo.size))
          replace HE := Lib.hid (HE.out.sf hB)
          replace HT := Lib.hid (HT.out.step hB)
          replace HT2 := Lib.hid (HT2.out.step hB)
          replace HR5 := Lib.hid (HR5.out.step hB)
          clear hB
          go_wp2_with fail
          go_roundw
          case rel => exact ⟨k + 1, S1, vo, obo, by have := HLT.out; omega, by go_num, HE.out, HS.out, HT.out, by rw [HST.out]; simp, HN2.out⟩
          case measure => first | (simp [intOf]; done) | (simp [intOf]; omega)
        go_wp2_with fail
        (refine wp_region_quiet_lit (by kernel_rfl) (by kernel_rfl) ?_; (repeat (first | go_big_quiet_step (fail) | (refine BigFrame.wpQuiet_skip (by rfl) ?_; try simp only [Act.put, List.setIfInBounds_toArray, List.set_cons_zero, List.set_cons_succ]))); refine wpQuiet_nil ?_; intro _ hw9; obtain ⟨nq, hw8⟩ := hw9; subst hw8)
        obtain ⟨W9, hWn⟩ : ∃ X, X = W8.drewN nq := ⟨_, rfl⟩
        rw [← hWn]
        have hB : Below W8.heap.size W8 W9 := by rw [hWn]; exact dN _ _
        clear hWn hq
        clear z14 z15 z16 z17 z18 z19 em el es eo qR50 qR51 qR52 qR53 qR54 qR5z qR5l
        replace HS := Lib.hid (HS.out.trans (SF.of_below hB HE.out.lo.size))
        replace HE := Lib.hid (HE.out.sf hB)
        replace HT := Lib.hid (HT.out.step hB)
        replace HT2 := Lib.hid (HT2.out.step hB)
        replace HR5 := Lib.hid (HR5.out.step hB)
        clear hB
        have em : W9.cell? ⟨bm, 0, none⟩ = some (.map (some mp)) := cell_at HE.out.cm 0
        have el : W9.cell? ⟨bl, 0, none⟩ = some (.slice (some ⟨g, o, none⟩) n cap) := cell_at HE.out.cl 0
        have es : W9.cell? ⟨bs, 0, none⟩ = some (.func (.func 55) #[] #[.pointer (some ⟨bm, 0, none⟩), .pointer (some ⟨bl, 0, none⟩), .pointer (some ⟨bo, 0, none⟩), .pointer (some ⟨bs, 0, none⟩)]) := cell_at HE.out.cs 0
        have eo : W9.cell? ⟨bo, 0, none⟩ = some (vo) := cell_at HE.out.co 0
        have hB9 : Below W9.heap.size W9 (W9.alloc (.cells #[.int .i64 (k : Nat)] 3)) := (Below.refl _ _).alloc (Nat.le_refl _) _
        have hE9 := HE.out.sf hB9
        have hol : ord.length ≤ 12 := by have := HLEN.out; omega
        obtain ⟨v3, ob3, W11, hrun, hio, hsf, hsz, hb1, hb2⟩ := in_push (ty := 33) (b := W9.heap.size) hE9.ord (blk_new _ _ _) (by omega) hE9.lo.size (by omega)
        obtain ⟨a3, n3, c3, rfl, H3, q31, q32⟩ := hio.v.sh
        have HRUN := Lib.hid hrun
        have hco3 : Blk W11 bo #[vo] 33 := (hb1 bo _ _ _ hE9.co rfl).trans hE9.co
        have eo3 : W11.cell? ⟨bo, 0, none⟩ = some vo := cell_at hco3 0
        have fo3 : W11.frozen? ⟨bo, 0, none⟩ = false := free_at hco3 0
        have lo3 : bo < W11.heap.size := hco3.lt
        have HE9 := Lib.hid hE9
        have HSF := Lib.hid (HS.out.trans ((SF.of_below hB9 HE.out.lo.size).trans hsf))
        have HSF9 := Lib.hid ((SF.of_below hB9 HE.out.lo.size).trans hsf)
        have HSF3 := Lib.hid hsf
        have HIO := Lib.hid hio
        have HB1' := Lib.hid hb1
        have HB2' := Lib.hid hb2
        clear hrun hco3 hE9 hB9 hsf hio hb1 hb2 hsz hol
        go_wp2_with (at_builtin; refine Lib.wpList_append_run _ rfl (.tmp 72) (.tmp 74) 33 33 rfl _ _ rfl rfl _ _ HRUN.out ?_)
        obtain ⟨W10, hW9⟩ : ∃ X, X = W11.setCell ⟨bo, 0, none⟩ (.slice a3 n3 c3) := ⟨_, rfl⟩
        rw [← hW9]
        obtain ⟨hE10, hS10⟩ := HE9.out.push HSF3.out HB1'.out HB2'.out hW9 HIO.out
        have HS2 := Lib.hid (HS.out.trans ((SF.of_below (show Below W9.heap.size W9 (W9.alloc (.cells #[.int .i64 (k : Nat)] 3)) from (Below.refl _ _).alloc (Nat.le_refl _) _) HE.out.lo.size).trans hS10))
        have hsall := (SF.of_below (show Below W9.heap.size W9 (W9.alloc (.cells #[.int .i64 (k : Nat)] 3)) from (Below.refl _ _).alloc (Nat.le_refl _) _) HE.out.lo.size).trans hS10
        replace HT := Lib.hid (hsall.fco HT.out)
        replace HT2 := Lib.hid (hsall.fco HT2.out)
        clear HS HE
        have HS := HS2
        have HE := Lib.hid hE10
        clear HS2 hsall hE10 hS10 HSF HSF9 HSF3 HB1' HB2' HIO HE9 HRUN eo3 fo3 lo3 hW9 HR5
        clear em el es eo
        have em : W10.cell? ⟨bm, 0, none⟩ = some (.map (some mp)) := cell_at HE.out.cm 0
        have el : W10.cell? ⟨bl, 0, none⟩ = some (.slice (some ⟨g, o, none⟩) n cap) := cell_at HE.out.cl 0
        have es : W10.cell? ⟨bs, 0, none⟩ = some (.func (.func 55) #[] #[.pointer (some ⟨bm, 0, none⟩), .pointer (some ⟨bl, 0, none⟩), .pointer (some ⟨bo, 0, none⟩), .pointer (some ⟨bs, 0, none⟩)]) := cell_at HE.out.cs 0
        have eo : W10.cell? ⟨bo, 0, none⟩ = some (.slice a3 n3 c3) := cell_at HE.out.co 0
        have hBd : Below W10.heap.size W10 W10.drew := (Below.refl _ _).drew
        have hIH := IH.out (D ||| 2 ^ k) A.l v2 ob2 S1 (.slice a3 n3 c3) ob3 (ord ++ [(k : Int)]) W10.drew (by have := free_or (D := D) (k := k) (n := L.length) (by rw [← HN.out]; exact HLT.out) HB1.out.symm; have := HF.out; omega) (bit_lt HD.out (by have := HLT.out; omega)) (by rw [HA.out]; exact tbl_do _ _ _ _ HTB.out) (HT2.out.step hBd) (HE.out.sf hBd) (HN2.out.up HG.out (bit_gt HB1.out.symm)) (by have := free_or (D := D) (k := k) (n := L.length) (by rw [← HN.out]; exact HLT.out) HB1.out.symm; have := HLEN.out; rw [List.length_append, List.length_singleton]; omega)
        have HIH := Lib.hid hIH
        clear hIH hBd
        have hbit : bits .or .u64 (D : Int) (IntKind.u64.wrap (2 ^ k)) = ((D ||| 2 ^ k : Nat) : Int) := by
          have e2 : ((2 : Int) ^ k) = ((2 ^ k : Nat) : Int) := by rw [Int.natCast_pow]; rfl
          have h12 : 2 ^ k < 4096 := Nat.pow_lt_pow_right (n := 12) (by decide) (by have := HLT.out; omega)
          have hb := bit_put D k HD.out (by have := HLT.out; omega)
          rw [e2]
          obtain ⟨p, hp⟩ : ∃ p : Nat, p = 2 ^ k := ⟨_, rfl⟩
          rw [← hp] at hb h12 ⊢
          rw [wraps_u64 _ (by omega) (by omega)]
          exact hb
        go_wp2_with fail
        go_region_with (refine Calls.mono HIH.out ?_; rintro e W12 ⟨b, rfl, hs12, S2, vo2, obo2, ord2, hE12, hm12⟩)
        clear em el es eo
        clear hbit
        cases hsr : sr L (D ||| 2 ^ k) A.l with
        | some r =>
          rw [hsr] at hm12
          obtain ⟨rfl, rfl⟩ := hm12
          have hfin : sr L D t = some ((k : Int) :: r) := by rw [HST.out]; simp [hsr]
          have hE13 : SE w0 W12 bm mp bl bo bs (.slice (some ⟨g, o, none⟩) n cap) L S2 vo2 obo2 (ord ++ ((k : Int) :: r)) := by simpa using hE12
          have hS13 := HS.out.trans ((SF.of_below (show Below W10.heap.size W10 W10.drew from (Below.refl _ _).drew) HE.out.lo.size).trans hs12)
          go_wp2_with fail
          try rw [Exit.noGoto_ret]
          go_ret
          exact ⟨_, rfl, sp_some hE13 hS13 hfin⟩
        | none =>
          rw [hsr] at hm12
          obtain ⟨rfl, rfl, hnew⟩ := hm12
          have hs13 := (SF.of_below (show Below W10.heap.size W10 W10.drew from (Below.refl _ _).drew) HE.out.lo.size).trans hs12
          replace HS := Lib.hid (HS.out.trans hs13)
          replace HT := Lib.hid (hs13.fco HT.out)
          clear HE HT2
          have HN3 := Lib.hid (HN2.out.step hnew)
          have HSR2 := Lib.hid hsr
          obtain ⟨a4, n4, c4, rfl, H4, q41, q42⟩ := hE12.ord.v.sh
          obtain ⟨m4, rfl⟩ : ∃ m, n4 = m + 1 := ⟨ord.length, by have := H4.out; rw [this]; simp⟩
          have HE := Lib.hid hE12
          have hct := hE12.ord.cut
          rw [Nat.add_sub_cancel] at hct
          have HCT := Lib.hid hct
          have ww7 : IntKind.i64.wrap (((m4 + 1 : Nat) : Int) - 1) = (m4 : Int) := (IntWalk.i64_in _ (by omega)).trans (by omega)
          have hm41 : (m4 : Int) ≤ ((m4 + 1 : Nat) : Int) := by omega
          have fo4 : W12.frozen? ⟨bo, 0, none⟩ = false := free_at hE12.co 0
          have lo4 : bo < W12.heap.size := hE12.co.lt
          have eo4 : W12.cell? ⟨bo, 0, none⟩ = some (.slice a4 (m4 + 1) c4) := cell_at hE12.co 0
          clear hct hE12 hnew hs12 hs13 hsr HIH HN2
          go_wp2_with fail
          obtain ⟨W13, hW4⟩ : ∃ X, X = W12.setCell ⟨bo, 0, none⟩ (.slice a4 m4 c4) := ⟨_, rfl⟩
          rw [← hW4]
          obtain ⟨hE14, hS14⟩ := HE.out.set hW4 HCT.out
          go_roundw
          case rel => exact ⟨k + 1, S2, .slice a4 m4 c4, obo2, by have := HLT.out; omega, by go_num, hE14, HS.out.trans hS14, hS14.fco HT.out, by rw [HST.out]; simp [HSR2.out], HN3.out⟩
          case measure => first | (simp [intOf]; done) | (simp [intOf]; omega)
      · skip
        have q1 : decide (0 < x.til) = false := decide_eq_false t1
        rw [q1] at HST
        clear t1
        go_wp2_with fail
        (refine wp_region_quiet_lit (by kernel_rfl) (by kernel_rfl) ?_; (repeat (first | go_big_quiet_step (fail) | (refine BigFrame.wpQuiet_skip (by rfl) ?_; try simp only [Act.put, List.setIfInBounds_toArray, List.set_cons_zero, List.set_cons_succ]))); refine wpQuiet_nil ?_; intro _ hw9; obtain ⟨nq, hw8⟩ := hw9; subst hw8)
        obtain ⟨W9, hWn⟩ : ∃ X, X = W8.drewN nq := ⟨_, rfl⟩
        rw [← hWn]
        have hB : Below W8.heap.size W8 W9 := by rw [hWn]; exact dN _ _
        clear hWn hq
        clear z14 z15 z16 z17 z18 z19 em el es eo qR50 qR51 qR52 qR53 qR54 qR5z qR5l
        replace HS := Lib.hid (HS.out.trans (SF.of_below hB HE.out.lo.size))
        replace HE := Lib.hid (HE.out.sf hB)
        replace HT := Lib.hid (HT.out.step hB)
        replace HT2 := Lib.hid (HT2.out.step hB)
        replace HR5 := Lib.hid (HR5.out.step hB)
        clear hB
        have em : W9.cell? ⟨bm, 0, none⟩ = some (.map (some mp)) := cell_at HE.out.cm 0
        have el : W9.cell? ⟨bl, 0, none⟩ = some (.slice (some ⟨g, o, none⟩) n cap) := cell_at HE.out.cl 0
        have es : W9.cell? ⟨bs, 0, none⟩ = some (.func (.func 55) #[] #[.pointer (some ⟨bm, 0, none⟩), .pointer (some ⟨bl, 0, none⟩), .pointer (some ⟨bo, 0, none⟩), .pointer (some ⟨bs, 0, none⟩)]) := cell_at HE.out.cs 0
        have eo : W9.cell? ⟨bo, 0, none⟩ = some (vo) := cell_at HE.out.co 0
        have hB9 : Below W9.heap.size W9 (W9.alloc (.cells #[.int .i64 (k : Nat)] 3)) := (Below.refl _ _).alloc (Nat.le_refl _) _
        have hE9 := HE.out.sf hB9
        have hol : ord.length ≤ 12 := by have := HLEN.out; omega
        obtain ⟨v3, ob3, W11, hrun, hio, hsf, hsz, hb1, hb2⟩ := in_push (ty := 33) (b := W9.heap.size) hE9.ord (blk_new _ _ _) (by omega) hE9.lo.size (by omega)
        obtain ⟨a3, n3, c3, rfl, H3, q31, q32⟩ := hio.v.sh
        have HRUN := Lib.hid hrun
        have hco3 : Blk W11 bo #[vo] 33 := (hb1 bo _ _ _ hE9.co rfl).trans hE9.co
        have eo3 : W11.cell? ⟨bo, 0, none⟩ = some vo := cell_at hco3 0
        have fo3 : W11.frozen? ⟨bo, 0, none⟩ = false := free_at hco3 0
        have lo3 : bo < W11.heap.size := hco3.lt
        have HE9 := Lib.hid hE9
        have HSF := Lib.hid (HS.out.trans ((SF.of_below hB9 HE.out.lo.size).trans hsf))
        have HSF9 := Lib.hid ((SF.of_below hB9 HE.out.lo.size).trans hsf)
        have HSF3 := Lib.hid hsf
        have HIO := Lib.hid hio
        have HB1' := Lib.hid hb1
        have HB2' := Lib.hid hb2
        clear hrun hco3 hE9 hB9 hsf hio hb1 hb2 hsz hol
        go_wp2_with (at_builtin; refine Lib.wpList_append_run _ rfl (.tmp 72) (.tmp 74) 33 33 rfl _ _ rfl rfl _ _ HRUN.out ?_)
        obtain ⟨W10, hW9⟩ : ∃ X, X = W11.setCell ⟨bo, 0, none⟩ (.slice a3 n3 c3) := ⟨_, rfl⟩
        rw [← hW9]
        obtain ⟨hE10, hS10⟩ := HE9.out.push HSF3.out HB1'.out HB2'.out hW9 HIO.out
        have HS2 := Lib.hid (HS.out.trans ((SF.of_below (show Below W9.heap.size W9 (W9.alloc (.cells #[.int .i64 (k : Nat)] 3)) from (Below.refl _ _).alloc (Nat.le_refl _) _) HE.out.lo.size).trans hS10))
        have hsall := (SF.of_below (show Below W9.heap.size W9 (W9.alloc (.cells #[.int .i64 (k : Nat)] 3)) from (Below.refl _ _).alloc (Nat.le_refl _) _) HE.out.lo.size).trans hS10
        replace HT := Lib.hid (hsall.fco HT.out)
        replace HT2 := Lib.hid (hsall.fco HT2.out)
        clear HS HE
        have HS := HS2
        have HE := Lib.hid hE10
        clear HS2 hsall hE10 hS10 HSF HSF9 HSF3 HB1' HB2' HIO HE9 HRUN eo3 fo3 lo3 hW9 HR5
        clear em el es eo
        have em : W10.cell? ⟨bm, 0, none⟩ = some (.map (some mp)) := cell_at HE.out.cm 0
        have el : W10.cell? ⟨bl, 0, none⟩ = some (.slice (some ⟨g, o, none⟩) n cap) := cell_at HE.out.cl 0
        have es : W10.cell? ⟨bs, 0, none⟩ = some (.func (.func 55) #[] #[.pointer (some ⟨bm, 0, none⟩), .pointer (some ⟨bl, 0, none⟩), .pointer (some ⟨bo, 0, none⟩), .pointer (some ⟨bs, 0, none⟩)]) := cell_at HE.out.cs 0
        have eo : W10.cell? ⟨bo, 0, none⟩ = some (.slice a3 n3 c3) := cell_at HE.out.co 0
        have hBd : Below W10.heap.size W10 W10.drew := (Below.refl _ _).drew
        have hIH := IH.out (D ||| 2 ^ k) A.l v2 ob2 S1 (.slice a3 n3 c3) ob3 (ord ++ [(k : Int)]) W10.drew (by have := free_or (D := D) (k := k) (n := L.length) (by rw [← HN.out]; exact HLT.out) HB1.out.symm; have := HF.out; omega) (bit_lt HD.out (by have := HLT.out; omega)) (by rw [HA.out]; exact tbl_do _ _ _ _ HTB.out) (HT2.out.step hBd) (HE.out.sf hBd) (HN2.out.up HG.out (bit_gt HB1.out.symm)) (by have := free_or (D := D) (k := k) (n := L.length) (by rw [← HN.out]; exact HLT.out) HB1.out.symm; have := HLEN.out; rw [List.length_append, List.length_singleton]; omega)
        have HIH := Lib.hid hIH
        clear hIH hBd
        have hbit : bits .or .u64 (D : Int) (IntKind.u64.wrap (2 ^ k)) = ((D ||| 2 ^ k : Nat) : Int) := by
          have e2 : ((2 : Int) ^ k) = ((2 ^ k : Nat) : Int) := by rw [Int.natCast_pow]; rfl
          have h12 : 2 ^ k < 4096 := Nat.pow_lt_pow_right (n := 12) (by decide) (by have := HLT.out; omega)
          have hb := bit_put D k HD.out (by have := HLT.out; omega)
          rw [e2]
          obtain ⟨p, hp⟩ : ∃ p : Nat, p = 2 ^ k := ⟨_, rfl⟩
          rw [← hp] at hb h12 ⊢
          rw [wraps_u64 _ (by omega) (by omega)]
          exact hb
        go_wp2_with fail
        go_region_with (refine Calls.mono HIH.out ?_; rintro e W12 ⟨b, rfl, hs12, S2, vo2, obo2, ord2, hE12, hm12⟩)
        clear em el es eo
        clear hbit
        cases hsr : sr L (D ||| 2 ^ k) A.l with
        | some r =>
          rw [hsr] at hm12
          obtain ⟨rfl, rfl⟩ := hm12
          have hfin : sr L D t = some ((k : Int) :: r) := by rw [HST.out]; simp [hsr]
          have hE13 : SE w0 W12 bm mp bl bo bs (.slice (some ⟨g, o, none⟩) n cap) L S2 vo2 obo2 (ord ++ ((k : Int) :: r)) := by simpa using hE12
          have hS13 := HS.out.trans ((SF.of_below (show Below W10.heap.size W10 W10.drew from (Below.refl _ _).drew) HE.out.lo.size).trans hs12)
          go_wp2_with fail
          try rw [Exit.noGoto_ret]
          go_ret
          exact ⟨_, rfl, sp_some hE13 hS13 hfin⟩
        | none =>
          rw [hsr] at hm12
          obtain ⟨rfl, rfl, hnew⟩ := hm12
          have hs13 := (SF.of_below (show Below W10.heap.size W10 W10.drew from (Below.refl _ _).drew) HE.out.lo.size).trans hs12
          replace HS := Lib.hid (HS.out.trans hs13)
          replace HT := Lib.hid (hs13.fco HT.out)
          clear HE HT2
          have HN3 := Lib.hid (HN2.out.step hnew)
          have HSR2 := Lib.hid hsr
          obtain ⟨a4, n4, c4, rfl, H4, q41, q42⟩ := hE12.ord.v.sh
          obtain ⟨m4, rfl⟩ : ∃ m, n4 = m + 1 := ⟨ord.length, by have := H4.out; rw [this]; simp⟩
          have HE := Lib.hid hE12
          have hct := hE12.ord.cut
          rw [Nat.add_sub_cancel] at hct
          have HCT := Lib.hid hct
          have ww7 : IntKind.i64.wrap (((m4 + 1 : Nat) : Int) - 1) = (m4 : Int) := (IntWalk.i64_in _ (by omega)).trans (by omega)
          have hm41 : (m4 : Int) ≤ ((m4 + 1 : Nat) : Int) := by omega
          have fo4 : W12.frozen? ⟨bo, 0, none⟩ = false := free_at hE12.co 0
          have lo4 : bo < W12.heap.size := hE12.co.lt
          have eo4 : W12.cell? ⟨bo, 0, none⟩ = some (.slice a4 (m4 + 1) c4) := cell_at hE12.co 0
          clear hct hE12 hnew hs12 hs13 hsr HIH HN2
          go_wp2_with fail
          obtain ⟨W13, hW4⟩ : ∃ X, X = W12.setCell ⟨bo, 0, none⟩ (.slice a4 m4 c4) := ⟨_, rfl⟩
          rw [← hW4]
          obtain ⟨hE14, hS14⟩ := HE.out.set hW4 HCT.out
          go_roundw
          case rel => exact ⟨k + 1, S2, .slice a4 m4 c4, obo2, by have := HLT.out; omega, by go_num, hE14, HS.out.trans hS14, hS14.fco HT.out, by rw [HST.out]; simp [HSR2.out], HN3.out⟩
          case measure => first | (simp [intOf]; done) | (simp [intOf]; omega)
end Go.Proofs.Ythmjlomlceljkaa
