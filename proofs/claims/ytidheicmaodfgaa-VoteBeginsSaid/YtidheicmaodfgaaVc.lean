/-
  Package vote: an answer that is given.
-/
import Derived.Test.YtidheicmaodfgaaVb
namespace Go.Proofs.Ytidheicmaodfgaa
open Go.RowKit

theorem badAsk_no (k self f t : Int) (h : badAsk k self f t = false) : k = 1 ∧ nodeB self = true ∧ nodeB f = true ∧ (self == f) = false ∧ 1 ≤ t := by
  unfold badAsk at h
  simp at h
  refine ⟨h.1.1.1.1, h.1.1.1.2, h.1.1.2, by rw [beq_eq_false_iff_ne]; exact h.1.2, by omega⟩

set_option maxRecDepth 100000 in
set_option maxHeartbeats 8000000 in
theorem answer_good (ht hv hb base term self : Int) (a : Option Addr) (len cap b o : Nat) (E : Nat → Ent) (k f tt t i l c : Int) (ok : Bool) (ea : Option Addr) (en ec : Nat) (si st ss : Int) (sa : Option Addr) (sn sc : Nat) (da : Option Addr) (dn dc : Nat) (w : World) (hs : EntsIn w a len cap b o E) (hk : rowsB base term len E = true) (hbad : badAsk k self f t = false) (g1 g2 g3 : Bool) (ot ov : Int) (hot : ot = riseT ht t) (hov : ov = riseV ht hv t)
    (h1 : g1 = decide (ht ≤ t)) (h2 : g2 = freeB ov f) (h3 : g3 = newerB base term len E i l) :
    Calls Try.prog 15 #[.agg #[.int .i64 ht, .int .i64 hv, .int .i64 hb], .agg #[.int .i64 base, .int .i64 term, .slice a len cap], .int .i64 self, .agg #[.int .i8 k, .int .i64 f, .int .i64 tt, .int .i64 t, .int .i64 i, .int .i64 l, .int .i64 c, .bool ok, .slice ea en ec, .int .i64 si, .int .i64 st, .int .u8 ss, .slice sa sn sc, .slice da dn dc]] w fun e w' => e = .returned (.tuple #[.agg #[.int .i64 ot, .int .i64 (if g1 && g2 && g3 then f else ov), .int .i64 hb], .agg #[.int .i8 2, .int .i64 self, .int .i64 f, .int .i64 ot, .int .i64 0, .int .i64 0, .int .i64 0, .bool (g1 && g2 && g3), .slice none 0 0, .int .i64 0, .int .i64 0, .int .u8 0, .slice none 0 0, .slice none 0 0], .int .i64 0]) ∧ Below w.heap.size w w' := by
  have HS := Lib.hid hs
  have he := rowsE_ok hk
  have cur := BxA.mk0 w ht hv hb base term (.slice a len cap) #[.int .i8 k, .int .i64 f, .int .i64 tt, .int .i64 t, .int .i64 i, .int .i64 l, .int .i64 c, .bool ok, .slice ea en ec, .int .i64 si, .int .i64 st, .int .u8 ss, .slice sa sn sc, .slice da dn dc]
  have HC := Lib.hid cur
  obtain ⟨rfl, n1, n2, b1, hge⟩ := badAsk_no k self f t hbad
  have N1 : Hid (∀ w, Calls Try.prog 29 #[.int .i64 self] w fun e w' => e = .returned (.bool true) ∧ w = w') := Lib.hid (fun w => by rw [← n1]; exact isNode_any self w)
  have N2 : Hid (∀ w, Calls Try.prog 29 #[.int .i64 f] w fun e w' => e = .returned (.bool true) ∧ w = w') := Lib.hid (fun w => by rw [← n2]; exact isNode_any f w)
  have R1 : Hid (∀ w, Calls Try.prog 18 #[.agg #[.int .i64 ht, .int .i64 hv, .int .i64 hb], .int .i64 t] w fun e w' => e = .returned (.agg #[.int .i64 ot, .int .i64 ov, .int .i64 hb]) ∧ Below w.heap.size w w') := Lib.hid (fun w => by rw [hot, hov]; exact rise_any ht hv hb t w)
  have G1 := Lib.hid h1
  have G2 := Lib.hid h2
  have G3 := Lib.hid h3
  obtain ⟨G, hG⟩ : ∃ G, G = (g1 && g2 && g3) := ⟨_, rfl⟩
  rw [← hG]
  have HG := Lib.hid hG
  clear hs hk cur hbad n1 n2 hot hov h1 h2 h3 hG
  go_enter Try.func15, Try.ntmps15
  go_wp2_with (first
      | (go_at_call 28; refine (check_any _ _ _ _ _ _ _ _ _ (HS.out.below HC.out.2.2.2.2.2.2)).mono ?_; rw [he]; rintro e W ⟨rfl, hW⟩; have HQ := Lib.hid (HC.out.step hW); have h0 := cell_at HQ.out.1 0; have h1 := cell_at HQ.out.1 1; have h2 := cell_at HQ.out.1 2; have m0 := cell_at HQ.out.2.2.1 0; have m1 := cell_at HQ.out.2.2.1 1; have m3 := cell_at HQ.out.2.2.1 3; clear hW)
      | (go_at_call_of 29 (Value.int .i64 f); with_reducible refine Calls.mono (N2.out _) ?_; rintro e w' ⟨rfl, rfl⟩)
      | (go_at_call 29; with_reducible refine Calls.mono (N1.out _) ?_; rintro e w' ⟨rfl, rfl⟩)
      | (go_at_call 18; refine (R1.out _).mono ?_; rintro e W2 ⟨rfl, hW2⟩; have HQ2 := Lib.hid (HQ.out.step hW2); clear h0 h1 h2 m0 m1 m3 hW2))
  obtain ⟨N, hN⟩ : ∃ N, N = w.heap.size := ⟨_, rfl⟩
  obtain ⟨B, hB⟩ : ∃ B, B = W2.heap.size := ⟨_, rfl⟩
  rw [← hN, ← hB]
  obtain ⟨W3, hW3⟩ : ∃ W3, W3 = (W2.alloc (.cells #[.int .i64 ot, .int .i64 ov, .int .i64 hb] 23)).alloc (.cells #[.func (.func 34) #[] #[.pointer (some ⟨N + 1 + 1, 0, none⟩), .pointer (some ⟨N, 0, none⟩)], .func (.func 35) #[] #[.pointer (some ⟨B, 0, none⟩), .pointer (some ⟨N + 1 + 1, 0, none⟩)], .func (.func 36) #[] #[.pointer (some ⟨N + 1, 0, none⟩), .pointer (some ⟨N + 1 + 1, 0, none⟩)]] 28) := ⟨_, rfl⟩
  have hq3 := HQ2.out.step (B := W3) (by rw [hW3]; exact ((Below.refl _ _).alloc (Nat.le_refl _) _).alloc (by simp) _)
  have hO : W3.heap[B]? = some (.cells #[.int .i64 ot, .int .i64 ov, .int .i64 hb] 23 (0, 0)) := by
    rw [hW3, hB, Below.heap_alloc _ _ _ (by simp)]; exact heap_alloc_new W2 _
  have hF : W3.heap[B + 1]? = some (.cells #[.func (.func 34) #[] #[.pointer (some ⟨N + 1 + 1, 0, none⟩), .pointer (some ⟨N, 0, none⟩)], .func (.func 35) #[] #[.pointer (some ⟨B, 0, none⟩), .pointer (some ⟨N + 1 + 1, 0, none⟩)], .func (.func 36) #[] #[.pointer (some ⟨N + 1, 0, none⟩), .pointer (some ⟨N + 1 + 1, 0, none⟩)]] 28 (0, 0)) := by
    rw [hW3]
    refine Eq.trans (congrArg (fun k => _root_.GetElem?.getElem? _ k) ?_) (heap_alloc_new _ _)
    simp [hB]
  have hs3 : B + 1 < W3.heap.size := lt_of_block hF
  have hNB : N + 4 < B := by have := HQ2.out.2.2.2.2.2.1; omega
  rw [← hW3]
  have HQ3 := Lib.hid hq3
  have HO := Lib.hid hO
  have HF := Lib.hid hF
  have HN := Lib.hid hN
  clear HQ HQ2 HC hW3 hq3 hO hF hB hN
  go_loopw [12, 58] (fun v i wr => ((v = .bool true ∧ i = .int .i64 (0 : Nat)) ∨ (v = .bool g1 ∧ i = .int .i64 (1 : Nat)) ∨ (v = .bool (g1 && g2) ∧ i = .int .i64 (2 : Nat)) ∨ (v = .bool (g1 && g2 && g3) ∧ i = .int .i64 (3 : Nat))) ∧ Below W3.heap.size W3 wr) (fun _ i _ => 3 - (intOf i).toNat)
  case atStart => exact ⟨.inl ⟨rfl, rfl⟩, Below.refl _ _⟩
  case round =>
    obtain ⟨hrel, hbel⟩ := hrel
    have hq := HQ3.out.step hbel
    rw [BxA, ← HN.out] at hq
    obtain ⟨q0, q1, q2, q3, q4, q5, q6⟩ := hq
    have hO := (hbel.block B (by omega)).trans HO.out
    have hF := (hbel.block (B + 1) (by omega)).trans HF.out
    rcases hrel with ⟨rfl, rfl⟩ | ⟨rfl, rfl⟩ | ⟨rfl, rfl⟩ | ⟨rfl, rfl⟩
    · have k0 := cell_at hF 0
      have A1 := Lib.hid (ask1_any (N + 1 + 1) N t ht wr (cell_at q2 3) (cell_at q0 0))
      clear q0 q1 q2 q3 q4 hO hF
      go_wp2_with (refine (A1.out).mono ?_; rw [← G1.out]; rintro e w' ⟨rfl, rfl⟩)
      go_roundw
      case rel => exact ⟨.inr (.inl ⟨rfl, rfl⟩), hbel⟩
      case measure => simp [intOf]
    · have k1 := cell_at hF 1
      have A2 := Lib.hid (ask2_any B (N + 1 + 1) ov f wr (cell_at hO 1) (cell_at q2 1))
      clear q0 q1 q2 q3 q4 hO hF
      cases g1
      · go_wp2_with fail
        go_roundw
        case rel => exact ⟨.inr (.inr (.inl ⟨rfl, rfl⟩)), hbel⟩
        case measure => simp [intOf]
      · go_wp2_with (refine (A2.out).mono ?_; rw [← G2.out]; rintro e w' ⟨rfl, rfl⟩)
        go_roundw
        case rel => exact ⟨.inr (.inr (.inl ⟨by simp, rfl⟩)), hbel⟩
        case measure => simp [intOf]
    · have k2 := cell_at hF 2
      have A3 := Lib.hid (ask3_any (N + 1) (N + 1 + 1) base term i l a len cap b o E wr (HS.out.below (by first | exact q6 | (rw [HN.out]; exact q6) | (rw [← HN.out]; exact q6))) (cell_at q1 0) (cell_at q1 1) (cell_at q1 2) (cell_at q2 4) (cell_at q2 5))
      clear q0 q1 q2 q3 q4 hO hF
      obtain ⟨G12, hG12⟩ : ∃ G12, G12 = (g1 && g2) := ⟨_, rfl⟩
      rw [← hG12]
      have HG12 := Lib.hid hG12
      clear hG12
      cases G12
      · go_wp2_with fail
        go_roundw
        case rel => exact ⟨.inr (.inr (.inr ⟨rfl, rfl⟩)), hbel⟩
        case measure => simp [intOf]
      · go_wp2_with (refine (A3.out).mono ?_; rw [← G3.out]; rintro e w' ⟨rfl, hw'⟩)
        go_roundw
        case rel => exact ⟨.inr (.inr (.inr ⟨by simp, rfl⟩)), hbel.trans (hw'.mono hbel.size)⟩
        case measure => simp [intOf]
    · rw [← HG.out]
      have hw6 : Below w.heap.size w wr := by first | exact q6 | exact HN.out ▸ q6
      have hNw : w.heap.size ≤ N := by have := HN.out; omega
      cases G
      · have r3 := fun j => cell_at q3 j
        have r4 := fun j => cell_at q4 j
        have z3 := fun j => free_at q3 j
        have z4 := fun j => free_at q4 j
        have m1 := cell_at q2 1
        have o0 := cell_at hO 0
        have o1 := cell_at hO 1
        have o2 := cell_at hO 2
        clear q0 q1 q2 q3 q4 hO hF
        go_wp2_with fail
        go_region
        all_goals
          go_wp2_with fail
          refine bodyPost_ret (v := .tuple #[.agg #[.int .i64 ot, .int .i64 ov, .int .i64 hb], .agg #[.int .i8 2, .int .i64 self, .int .i64 f, .int .i64 ot, .int .i64 0, .int .i64 0, .int .i64 0, .bool false, .slice none 0 0, .int .i64 0, .int .i64 0, .int .u8 0, .slice none 0 0, .slice none 0 0], .int .i64 0]) (by simp [results, Try.results15, go_sem, r3, r4]) rfl ⟨rfl, ?_⟩
          refine Below.drew ?_
          (repeat (refine Below.setCell ?_ (by simp only; omega) _)); exact hw6
      · have m1 := cell_at q2 1
        have o1 := cell_at hO 1
        have p1 := free_at hO 1
        obtain ⟨Wt, hWt⟩ : ∃ Wt, Wt = wr.setCell ⟨B, 1, none⟩ (.int .i64 f) := ⟨_, rfl⟩
        have r3 : ∀ j, Wt.cell? ⟨N + 1 + 1 + 1, j, none⟩ = _ := fun j => cell_at (by rw [hWt, heap_setCell_ne _ _ _ _ (by simp only; omega)]; exact q3) j
        have r4 : ∀ j, Wt.cell? ⟨N + 1 + 1 + 1 + 1, j, none⟩ = _ := fun j => cell_at (by rw [hWt, heap_setCell_ne _ _ _ _ (by simp only; omega)]; exact q4) j
        have z3 : ∀ j, Wt.frozen? ⟨N + 1 + 1 + 1, j, none⟩ = _ := fun j => free_at (by rw [hWt, heap_setCell_ne _ _ _ _ (by simp only; omega)]; exact q3) j
        have z4 : ∀ j, Wt.frozen? ⟨N + 1 + 1 + 1 + 1, j, none⟩ = _ := fun j => free_at (by rw [hWt, heap_setCell_ne _ _ _ _ (by simp only; omega)]; exact q4) j
        have hO2 := heap_setCell_same hO 1 (.int .i64 f)
        rw [← hWt] at hO2
        have o0 : Wt.cell? ⟨B, 0, none⟩ = some (.int .i64 ot) := cell_at hO2 0
        have o1' : Wt.cell? ⟨B, 1, none⟩ = some (.int .i64 f) := cell_at hO2 1
        have o2 : Wt.cell? ⟨B, 2, none⟩ = some (.int .i64 hb) := cell_at hO2 2
        have m1' : Wt.cell? ⟨N + 1 + 1, 1, none⟩ = _ := cell_at (by rw [hWt, heap_setCell_ne _ _ _ _ (by simp only; omega)]; exact q2) 1
        have hw7 : Below w.heap.size w Wt := by rw [hWt]; exact hw6.setCell (by simp only; omega) _
        have HWt := Lib.hid hWt
        clear q0 q1 q2 q3 q4 hO hF hO2 hWt
        go_wp2_with fail
        rw [← HWt.out]
        go_region
        all_goals
          go_wp2_with fail
          refine bodyPost_ret (v := .tuple #[.agg #[.int .i64 ot, .int .i64 f, .int .i64 hb], .agg #[.int .i8 2, .int .i64 self, .int .i64 f, .int .i64 ot, .int .i64 0, .int .i64 0, .int .i64 0, .bool true, .slice none 0 0, .int .i64 0, .int .i64 0, .int .u8 0, .slice none 0 0, .slice none 0 0], .int .i64 0]) (by simp [results, Try.results15, go_sem, r3, r4]) rfl ⟨rfl, ?_⟩
          refine Below.drew ?_
          (repeat (refine Below.setCell ?_ (by simp only; omega) _)); exact hw7
end Go.Proofs.Ytidheicmaodfgaa
