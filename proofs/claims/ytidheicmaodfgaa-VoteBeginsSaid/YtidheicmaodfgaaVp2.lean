/-
  Package vote: an election begins.
-/
import Derived.Test.YtidheicmaodfgaaVp1
namespace Go.Proofs.Ytidheicmaodfgaa
open Go.RowKit

/-- what a beginning comes to -/
def BegP (w : World) (t v b : Int) (n : Nat) (xs : List Value) (er : Int) (e : Ending) (w' : World) : Prop := ∃ a c ob, e = .returned (.tuple #[.agg #[.int .i64 t, .int .i64 v, .int .i64 b], .slice a n c, .int .i64 er]) ∧ Row w' (.slice a n c) ob 40 14 n xs ∧ (∀ g, ob = some g → w.heap.size ≤ g) ∧ Below w.heap.size w w'
theorem infoMsg : (Try.prog.info? 40).map (fun i => (i.zero, i.size, i.bytes)) = some (some (.agg #[.int .i8 0, .int .i64 0, .int .i64 0, .int .i64 0, .int .i64 0, .int .i64 0, .int .i64 0, .bool false, .slice none 0 0, .int .i64 0, .int .i64 0, .int .u8 0, .slice none 0 0, .slice none 0 0]), 14, 160) := by kernel_rfl
theorem asks_yes2 {s si : Nat} {k : Nat} (t1 N L : Int) (h : incB s si (k + 1) = true) : askN s si (k + 1) = askN s si k + 1 ∧ asksL s si t1 N L (k + 1) = asksL s si t1 N L k ++ [.int .i8 1, .int .i64 si, .int .i64 ((k : Int) + 1), .int .i64 t1, .int .i64 N, .int .i64 L, .int .i64 0, .bool false, .slice none 0 0, .int .i64 0, .int .i64 0, .int .u8 0, .slice none 0 0, .slice none 0 0] := asks_yes t1 N L h
/-- four boxes of the call's own -/
def B4 (w : World) (c0 c1 : Array Value) (t2 : TypeId) (c2 c3 : Array Value) (W : World) : Prop := W.heap[w.heap.size]? = some (.cells c0 23 (0, 0)) ∧ W.heap[w.heap.size + 1]? = some (.cells c1 26 (0, 0)) ∧ W.heap[w.heap.size + 1 + 1]? = some (.cells c2 t2 (0, 0)) ∧ W.heap[w.heap.size + 1 + 1 + 1]? = some (.cells c3 23 (0, 0)) ∧ Below w.heap.size w W
theorem B4.lt {w V : World} {c0 c1 c2 c3 : Array Value} {t2 : TypeId} (h : B4 w c0 c1 t2 c2 c3 V) : w.heap.size + 3 < V.heap.size := lt_of_block h.2.2.2.1
theorem B4.step {w V W : World} {c0 c1 c2 c3 : Array Value} {t2 : TypeId} (h : B4 w c0 c1 t2 c2 c3 V) (hB : Below V.heap.size V W) : B4 w c0 c1 t2 c2 c3 W :=
  have hl := h.lt
  ⟨(hB.block _ (by omega)).trans h.1, (hB.block _ (by omega)).trans h.2.1, (hB.block _ (by omega)).trans h.2.2.1, (hB.block _ (by omega)).trans h.2.2.2.1, h.2.2.2.2.trans (hB.mono h.2.2.2.2.size)⟩
theorem B4.set {w V : World} {c0 c1 c2 c3 : Array Value} {t2 : TypeId} (h : B4 w c0 c1 t2 c2 c3 V) (j : Nat) (u : Value) : B4 w (c0.setIfInBounds j u) c1 t2 c2 c3 (V.setCell ⟨w.heap.size, j, none⟩ u) :=
  ⟨heap_setCell_same h.1 j u, (heap_setCell_ne V ⟨w.heap.size, j, none⟩ u _ (by simp only; omega)).trans h.2.1, (heap_setCell_ne V ⟨w.heap.size, j, none⟩ u _ (by simp only; omega)).trans h.2.2.1, (heap_setCell_ne V ⟨w.heap.size, j, none⟩ u _ (by simp only; omega)).trans h.2.2.2.1, h.2.2.2.2.setCell (by simp only; omega) _⟩
theorem B4.grown {w V W : World} {c0 c1 c2 c3 : Array Value} {t2 : TypeId} {ob : Option Nat} (h : B4 w c0 c1 t2 c2 c3 V) (hg : V.grownBy W ob) (ho : ∀ g, ob = some g → w.heap.size + 3 < g) : B4 w c0 c1 t2 c2 c3 W :=
  ⟨grown_other hg h.1 (fun e => by have := ho _ e; omega), grown_other hg h.2.1 (fun e => by have := ho _ e; omega), grown_other hg h.2.2.1 (fun e => by have := ho _ e; omega), grown_other hg h.2.2.2.1 (fun e => by have := ho _ e; omega),
    h.2.2.2.2.grown hg h.2.2.2.2.size (fun g e => by have := ho g e; omega)⟩
theorem B4.mk0 (w : World) (c0 c1 c2 c3 : Array Value) (t2 : TypeId) : B4 w c0 c1 t2 c2 c3 ((((w.alloc (.cells c0 23)).alloc (.cells c1 26)).alloc (.cells c2 t2)).alloc (.cells c3 23)) := by
  refine ⟨?_, ?_, ?_, ?_, ((((Below.refl _ _).alloc (Nat.le_refl _) _).alloc (by simp) _).alloc (by simp; omega) _).alloc (by simp; omega) _⟩
  · rw [Below.heap_alloc _ _ _ (by first | (simp; done) | (simp; omega)), Below.heap_alloc _ _ _ (by first | (simp; done) | (simp; omega)), Below.heap_alloc _ _ _ (by first | (simp; done) | (simp; omega))]
    exact heap_alloc_new w _
  · rw [Below.heap_alloc _ _ _ (by first | (simp; done) | (simp; omega)), Below.heap_alloc _ _ _ (by first | (simp; done) | (simp; omega))]
    refine Eq.trans (congrArg (fun k => _root_.GetElem?.getElem? _ k) ?_) (heap_alloc_new _ _)
    simp
  · rw [Below.heap_alloc _ _ _ (by simp)]
    refine Eq.trans (congrArg (fun k => _root_.GetElem?.getElem? _ k) ?_) (heap_alloc_new _ _)
    simp
  · refine Eq.trans (congrArg (fun k => _root_.GetElem?.getElem? _ k) ?_) (heap_alloc_new _ _)
    simp

set_option maxRecDepth 100000 in
set_option maxHeartbeats 8000000 in
theorem begin_good (ht hv hb base term : Int) (a : Option Addr) (len cap b o : Nat) (E : Nat → Ent) (s si : Nat) (w : World) (hs : EntsIn w a len cap b o E) (hk : rowsB base term len E = true) (h8 : s < 256) (h1 : 1 ≤ si) (h7 : si ≤ 7) (hbit : s.testBit (si - 1) = true) :
    Calls Try.prog 12 #[.agg #[.int .i64 ht, .int .i64 hv, .int .i64 hb], .agg #[.int .i64 base, .int .i64 term, .slice a len cap], .int .u8 s, .int .i64 si] w (BegP w (IntKind.i64.wrap (ht + 1)) si hb (askN s si 7) (asksL s si (IntKind.i64.wrap (ht + 1)) (base + len) (lastT term len E) 7) 0) := by
  obtain ⟨t1, ht1⟩ : ∃ t1, t1 = IntKind.i64.wrap (ht + 1) := ⟨_, rfl⟩
  obtain ⟨N, hN⟩ : ∃ N, N = base + (len : Int) := ⟨_, rfl⟩
  obtain ⟨L, hL⟩ : ∃ L, L = lastT term len E := ⟨_, rfl⟩
  have C1 : Hid (∀ W, EntsIn W a len cap b o E → Calls Try.prog 28 #[.agg #[.int .i64 base, .int .i64 term, .slice a len cap]] W fun e w' => e = .returned (.int .i64 0) ∧ Below W.heap.size W w') := Lib.hid (fun W h => by have := check_any base term a len cap b o E W h; rwa [rowsE_ok hk] at this)
  have C2 : Hid (∀ W, EntsIn W a len cap b o E → Calls Try.prog 31 #[.agg #[.int .i64 base, .int .i64 term, .slice a len cap]] W fun e w' => e = .returned (.tuple #[.int .i64 N, .int .i64 L]) ∧ Below W.heap.size W w') := Lib.hid (fun W h => by rw [hN, hL]; exact lastx_any base term a len cap b o E W h hk)
  have C3 : Hid (∀ W, Calls Try.prog 29 #[.int .i64 si] W fun e w' => e = .returned (.bool true) ∧ W = w') := Lib.hid (fun W => by have := isNode_any si W; rwa [show nodeB si = true by unfold nodeB; simp; omega] at this)
  have C4 : Hid (∀ W, Calls Try.prog 30 #[.int .u8 s, .int .i64 si] W fun e w' => e = .returned (.bool true) ∧ W = w') := Lib.hid (fun W => by rw [← hbit]; exact has_any s si W h8 h1 h7)
  have HS := Lib.hid hs
  have HQ := Lib.hid (B4.mk0 w #[.int .i64 ht, .int .i64 hv, .int .i64 hb] #[.int .i64 base, .int .i64 term, .slice a len cap] #[.int .i64 si] #[.int .i64 0, .int .i64 0, .int .i64 0] 3)
  rw [← ht1, ← hN, ← hL]
  have hwr : IntKind.i64.wrap (ht + 1) = t1 := ht1.symm
  obtain ⟨i0, hi, hz0, hz1, hz2⟩ := info_parts infoMsg
  have HI := Lib.hid hi
  have HZ0 := Lib.hid hz0
  have HZ1 := Lib.hid hz1
  have HZ2 := Lib.hid hz2
  have H8 := Lib.hid h8
  clear hs hk hN hL ht1 hbit hi hz0 hz1 hz2 h8
  go_enter Try.func12, Try.ntmps12
  go_wp2_with fail
  go_at_call 28
  refine Calls.mono (C1.out _ (HS.out.below HQ.out.2.2.2.2)) ?_
  rintro e W1 ⟨rfl, hW1⟩
  have HQ1 := Lib.hid (HQ.out.step hW1)
  have f0 := free_at HQ1.out.1 0
  have f1 := free_at HQ1.out.1 1
  have c0 := cell_at HQ1.out.1 0
  have c1 := cell_at HQ1.out.1 1
  have c2 := cell_at HQ1.out.1 2
  have d0 := cell_at HQ1.out.2.1 0
  have d1 := cell_at HQ1.out.2.1 1
  have d2 := cell_at HQ1.out.2.1 2
  have s0 := cell_at HQ1.out.2.2.1 0
  have hl1 := HQ1.out.lt
  have HQ2 := Lib.hid (show B4 w #[.int .i64 t1, .int .i64 si, .int .i64 hb] #[.int .i64 base, .int .i64 term, .slice a len cap] 3 #[.int .i64 si] #[.int .i64 0, .int .i64 0, .int .i64 0] _ from (HQ1.out.set 0 (.int .i64 t1)).set 1 (.int .i64 si))
  clear hW1
  go_wp2_with (first
    | (go_at_call 29; refine (C3.out _).mono ?_; rintro e w' ⟨rfl, rfl⟩)
    | (go_at_call 30; refine (C4.out _).mono ?_; rintro e w' ⟨rfl, rfl⟩))
  go_at_call 31
  refine Calls.mono (C2.out _ (HS.out.below HQ2.out.2.2.2.2)) ?_
  rintro e W2 ⟨rfl, hW2⟩
  have HQ3 := Lib.hid (HQ2.out.step hW2)
  clear hwr f0 f1 c0 c1 c2 d0 d1 d2 s0 hW2
  go_wp2_with fail
  obtain ⟨W3, hW3⟩ : ∃ W3, W3 = (W2.alloc (.cells #[.int .i64 N] 3)).alloc (.cells #[.int .i64 L] 3) := ⟨_, rfl⟩
  have hB3 : Below W2.heap.size W2 W3 := by rw [hW3]; exact ((Below.refl _ _).alloc (Nat.le_refl _) _).alloc (by simp) _
  have hX1 : W3.heap[W2.heap.size]? = some (.cells #[.int .i64 N] 3 (0, 0)) := by rw [hW3, Below.heap_alloc _ _ _ (by simp)]; exact heap_alloc_new _ _
  have hX2 : W3.heap[W2.heap.size + 1]? = some (.cells #[.int .i64 L] 3 (0, 0)) := by
    rw [hW3]
    refine Eq.trans (congrArg (fun k => _root_.GetElem?.getElem? _ k) ?_) (heap_alloc_new _ _)
    simp
  rw [← hW3]
  have HQ4 := Lib.hid (HQ3.out.step hB3)
  have HX1 := Lib.hid hX1
  have HX2 := Lib.hid hX2
  have hl2 := HQ3.out.lt
  clear hB3 hX1 hX2 hW3
  go_loopw [14, 15] (fun v i wr => ∃ k : Nat, k ≤ 7 ∧ i = .int .i64 ((k : Int) + 1) ∧ ∃ ob, Row wr v ob 40 14 (askN s si k) (asksL s si t1 N L k) ∧ (∀ g, ob = some g → W2.heap.size + 1 < g) ∧ B4 w #[.int .i64 t1, .int .i64 si, .int .i64 hb] #[.int .i64 base, .int .i64 term, .slice a len cap] 3 #[.int .i64 si] #[.int .i64 0, .int .i64 0, .int .i64 0] wr ∧
    wr.heap[W2.heap.size]? = some (.cells #[.int .i64 N] 3 (0, 0)) ∧ wr.heap[W2.heap.size + 1]? = some (.cells #[.int .i64 L] 3 (0, 0))) (fun _ i _ => 8 - (intOf i).toNat)
  case atStart => exact ⟨0, by omega, rfl, none, Row.nil _ _ _, (fun _ h => by cases h), HQ4.out, HX1.out, HX2.out⟩
  case round =>
    obtain ⟨k, hk, rfl, ob, hrow, hob, hq, hx1, hx2⟩ := hrel
    have c0 := cell_at hq.1 0
    have s0 := cell_at hq.2.2.1 0
    have xi := cell_at hx1 0
    have xt := cell_at hx2 0
    have hll := hq.lt
    have hz2 : W2.heap.size + 1 < wr.heap.size := lt_of_block hx2
    have hle := askN_le s si k
    have HQk := Lib.hid hq
    have HK1 := Lib.hid hx1
    have HK2 := Lib.hid hx2
    have HROW := Lib.hid hrow
    have HOB := Lib.hid hob
    clear hq hx1 hx2
    by_cases hlt : k < 7
    · have b7 : decide ((k : Int) + 1 ≤ 7) = true := by simp; omega
      have hnx : ((k : Int) + 1) + 1 = (((k + 1 : Nat) : Int)) + 1 := by omega
      have HNX := Lib.hid hnx
      clear hnx
      by_cases hsi : k + 1 = si
      · have hno := asks_no (s := s) (self := (si : Int)) (k := k) t1 N L (by unfold incB; simp; omega)
        have b1 : ((k : Int) + 1 != (si : Int)) = false := by simp; omega
        clear hrow hob
        go_wp2_with fail
        go_roundw
        case rel => exact ⟨k + 1, by omega, by go_num, ob, by rw [hno.1, hno.2]; exact HROW.out, HOB.out, HQk.out, HK1.out, HK2.out⟩
        case measure => simp [intOf]; omega
      · have b1 : ((k : Int) + 1 != (si : Int)) = true := by rw [bne_iff_ne]; omega
        obtain ⟨tb, htb⟩ : ∃ tb, tb = s.testBit k := ⟨_, rfl⟩
        have C5 : Hid (∀ W, Calls Try.prog 30 #[.int .u8 s, .int .i64 ((k : Int) + 1)] W fun e w' => e = .returned (.bool tb) ∧ W = w') := Lib.hid (fun W => by
          have := has_any s (k + 1) W H8.out (by omega) (by omega)
          rw [htb]
          simpa using this)
        cases tb
        · have hno := asks_no (s := s) (self := (si : Int)) (k := k) t1 N L (by unfold incB; rw [Nat.add_sub_cancel, ← htb]; simp)
          clear hrow hob htb
          go_wp2_with (go_at_call 30; refine (C5.out _).mono ?_; rintro e w' ⟨rfl, rfl⟩)
          go_roundw
          case rel => exact ⟨k + 1, by omega, by go_num, ob, by rw [hno.1, hno.2]; exact HROW.out, HOB.out, HQk.out, HK1.out, HK2.out⟩
          case measure => simp [intOf]; omega
        · have hyes := asks_yes2 (s := s) (si := si) (k := k) t1 N L (by unfold incB; rw [Nat.add_sub_cancel, ← htb]; simp; omega)
          have HYES := Lib.hid hyes
          clear hob htb hyes
          go_wp2_with (go_at_call 30; refine (C5.out _).mono ?_; rintro e w' ⟨rfl, rfl⟩)
          go_at_call 32
          refine Calls.mono (begin1_any (w.heap.size + 1 + 1) w.heap.size W2.heap.size (W2.heap.size + 1) si t1 N L ((k : Int) + 1) wr s0 c0 xi xt (by omega) (by omega) (by omega) (by omega)) ?_
          rintro e W4 ⟨rfl, hW4⟩
          have HROW4 := Lib.hid (show Row W4 _ ob 40 14 (askN s si k) (asksL s si t1 N L k) from HROW.out.congr fun g e => by
            have hlg : g < wr.heap.size := by subst e; exact HROW.out.lt
            exact hW4.block g hlg)
          have HQ5 := Lib.hid (HQk.out.step hW4)
          have HK3 := Lib.hid ((hW4.block _ (by omega)).trans HK1.out)
          have HK4 := Lib.hid ((hW4.block _ hz2).trans HK2.out)
          clear hrow c0 s0 xi xt hW4
          go_wp2_with (at_builtin; refine wpList_append_row _ rfl (.tmp 56) (.tmp 60) 29 rfl 40 i0 _ 14 160 Try.underlying29 HI.out HZ0.out HZ1.out HZ2.out rfl (by decide) _ ob (askN s si k) (asksL s si t1 N L k) rfl (HROW4.out.alloc _) ⟨W4.heap.size, 0, none⟩ 1 1 [.int .i8 1, .int .i64 si, .int .i64 ((k : Int) + 1), .int .i64 t1, .int .i64 N, .int .i64 L, .int .i64 0, .bool false, .slice none 0 0, .int .i64 0, .int .i64 0, .int .u8 0, .slice none 0 0, .slice none 0 0] rfl (by decide) rfl ?c1 ?c2 ?c3 ?c4 ?_)
          case c1 => intro j u hu; exact news_at W4 #[.int .i8 1, .int .i64 si, .int .i64 ((k : Int) + 1), .int .i64 t1, .int .i64 N, .int .i64 L, .int .i64 0, .bool false, .slice none 0 0, .int .i64 0, .int .i64 0, .int .u8 0, .slice none 0 0, .slice none 0 0] _ j u hu
          case c2 => intro u hu; exact (List.all_eq_true (p := fun u : Value => u.oneCell')).1 rfl u hu
          case c3 => unfold maxLen; omega
          case c4 => omega
          intro v' ob' w5 hrow5 hg5 hob5
          have hal : Below W4.heap.size W4 (W4.alloc (.cells #[.int .i8 1, .int .i64 si, .int .i64 ((k : Int) + 1), .int .i64 t1, .int .i64 N, .int .i64 L, .int .i64 0, .bool false, .slice none 0 0, .int .i64 0, .int .i64 0, .int .u8 0, .slice none 0 0, .slice none 0 0] 40)) := (Below.refl _ _).alloc (Nat.le_refl _) _
          have HQ6 := Lib.hid ((HQ5.out.step hal).grown hg5 (fun g e => by have := HOB.out g e; omega))
          have HK5 := Lib.hid (grown_other hg5 ((hal.block _ (lt_of_block HK3.out)).trans HK3.out) (fun e => by have := HOB.out _ e; omega))
          have HK6 := Lib.hid (grown_other hg5 ((hal.block _ (lt_of_block HK4.out)).trans HK4.out) (fun e => by have := HOB.out _ e; omega))
          have hz4 := lt_of_block HK4.out
          have hnew : W2.heap.size + 1 < ob' := by
            rcases hob5 with h | h
            · exact HOB.out _ h
            · first | omega | (simp at h; omega)
          have HR5 := Lib.hid hrow5
          clear hg5 hob5 hrow5 hal
          go_wp2_with fail
          go_roundw
          case rel => exact ⟨k + 1, by omega, by go_num, some ob', by rw [HYES.out.1, HYES.out.2]; exact HR5.out, (fun g e => by obtain rfl := Option.some.inj e; exact hnew), HQ6.out, HK5.out, HK6.out⟩
          case measure => simp [intOf]; omega
    · obtain rfl : k = 7 := by omega
      have c1 := cell_at HQk.out.1 1
      have c2 := cell_at HQk.out.1 2
      have p0 := cell_at HQk.out.2.2.2.1 0
      have p1 := cell_at HQk.out.2.2.2.1 1
      have p2 := cell_at HQk.out.2.2.2.1 2
      have g0 := free_at HQk.out.2.2.2.1 0
      have g1 := free_at HQk.out.2.2.2.1 1
      have g2 := free_at HQk.out.2.2.2.1 2
      obtain ⟨a', cap', rfl, hcap1, hcap2, ha'⟩ := hrow.shape
      clear hrow hob ha'
      go_wp2_with fail
      refine bodyPost_ret (v := .tuple #[.agg #[.int .i64 t1, .int .i64 si, .int .i64 hb], .slice a' (askN s si 7) cap', .int .i64 0]) (by simp [results, Try.results12, go_sem, p0, p1, p2]) rfl ⟨_, _, ob, rfl, ?_, ?_, ?_⟩
      · refine HROW.out.congr fun g e => ?_
        have := HOB.out g e
        rw [heap_setCell_ne _ _ _ _ (by simp only; omega), heap_setCell_ne _ _ _ _ (by simp only; omega), heap_setCell_ne _ _ _ _ (by simp only; omega)]
      · exact fun g e => by have := HOB.out g e; omega
      · exact ((HQk.out.2.2.2.2.setCell (by simp only; omega) _).setCell (by simp only; omega) _).setCell (by simp only; omega) _
end Go.Proofs.Ytidheicmaodfgaa
