/-
  Rows of terms.
-/
import Derived.Test.YtcadinoijclfnaaRoc
import Derived.Deep.DeepFit
import Derived.Lib.AppendZeros
namespace Go.Proofs.Ytcadinoijclfnaa
open Go.RowKit
set_option linter.unusedSimpArgs false
set_option linter.unusedVariables false

theorem appP {w0 W : World} {M : Nat} {ty : TypeId} {v : Value} {a2 : Option Addr} {m c2 g2 o2 : Nat} {F2 : Nat → DE} {ob : Option Nat} {L L2 : List EnD} (h : OR w0 M W v ob L) (hp : PcIn W ⟨a2, m, c2, g2, o2, dL F2 m⟩) (hby : ∀ k, k < m → (F2 k).by_ w0) (hm : m = L2.length) (p1 : ∀ k, k < L2.length → L2[k]? = some (F2 k).pure) (k1 : ∀ x ∈ L2, x.ok) (hM : M ≤ W.heap.size) (hn : L.length + L2.length ≤ 100000) :
    ∃ v' ob' w', (Builtin.append_ #[22, 22] ty #[v, .slice a2 m c2]).run Try.prog W = .ok v' w' ∧ OR w0 M w' v' ob' (L ++ L2) ∧ Below M W w' := by
  subst hm
  obtain ⟨hM0, F, r1, r2, r3, r4, r5⟩ := h
  obtain ⟨i0, hi, hz0, hz1, hz2⟩ := info_parts infoEn
  rcases Nat.eq_zero_or_pos L2.length with h0 | h0
  · have hL2 : L2 = [] := List.eq_nil_of_length_eq_zero h0
    subst hL2
    rw [List.append_nil]
    exact ⟨v, ob, W, run_append_row_zero (P := Try.prog) (w := W) 22 ty 47 i0 5 Try.underlying22 hi v ob _ _ r1 a2 c2, ⟨hM0, F, r1, r2, r3, r4, r5⟩, Below.refl _ _⟩
  · obtain ⟨e0, e1⟩ := hp.at_ h0
    simp only at e0 e1
    subst e0
    obtain ⟨v', ob', w', hrun, s1, s2, s3⟩ := run_append_row (P := Try.prog) W 22 ty 47 i0 _ 5 56 Try.underlying22 hi hz0 hz1 hz2 rfl (by decide) v ob L.length (dL F L.length) r1 ⟨g2, o2, none⟩ L2.length c2 (dL F2 L2.length) h0 hp.len (fun j u hu => by
      have hj : j < L2.length * 5 := by have := (List.getElem?_eq_some_iff.1 hu).1; rw [dL_len] at this; exact this
      rw [addr_add]
      exact (hp.cell j hj).trans hu) hp.one (by unfold maxLen; omega) (by omega)
    rw [← dL_cat] at s1
    refine ⟨v', some ob', w', hrun, ⟨hM0, catF L.length F F2, by rw [List.length_append]; exact s1, fun k hk => ?_, fun k hk => cat_pure r3 p1 k (by simpa using hk), fun x hx => ?_, fun g e => ?_⟩, ?_⟩
    · rw [List.length_append] at hk
      unfold catF
      split
      · exact r2 k (by assumption)
      · exact hby _ (by omega)
    · rcases List.mem_append.1 hx with h | h
      · exact r4 x h
      · exact k1 x h
    · obtain rfl := Option.some.inj e
      rcases s3 with h | h
      · exact r5 _ h
      · omega
    · exact (Below.refl M W).grown s2 hM r5
def tE (t : Int) : DE := ⟨t, 0, 0, 0, none, 0, 0, 0, 0, fun _ => 0⟩
def tD (t : Int) : EnD := ⟨t, 0, 0, 0, []⟩
theorem tE_by (t : Int) (W : World) : (tE t).by_ W := ⟨Nat.le_refl _, Nat.zero_le _, fun h => absurd h (Nat.not_lt_zero _), fun k h => absurd h (Nat.not_lt_zero _), fun _ => (by show 0 < 256; decide)⟩
theorem tE_pure (t : Int) : (tE t).pure = tD t := rfl
theorem one_p (t : Int) : ∀ k, k < [tD t].length → [tD t][k]? = some (tE t).pure := fun k hk => by
  obtain rfl : k = 0 := Nat.lt_one_iff.1 hk
  rfl
theorem one_ok {t : Int} (h : -9223372036854775808 ≤ t ∧ t ≤ 9223372036854775807) : ∀ x ∈ [tD t], x.ok := fun x hx => by
  obtain rfl : x = tD t := List.mem_singleton.1 hx
  unfold EnD.ok tD
  simp only
  omega
def tL (T : Nat → Int) (n : Nat) : List EnD := (List.range n).map fun k => tD (T k)
theorem tL_len (T : Nat → Int) (n : Nat) : (tL T n).length = n := by simp [tL]
theorem tL_succ (T : Nat → Int) (n : Nat) : tL T (n + 1) = tL T n ++ [tD (T n)] := by simp [tL, List.range_succ]
theorem one_pc (W : World) (t : Int) (ty : TypeId) : PcIn (W.alloc (.cells #[.int .i64 t, .int .i8 0, .int .i64 0, .int .u8 0, .slice none 0 0] ty)) ⟨some ⟨W.heap.size, 0, none⟩, 1, 1, W.heap.size, 0, dL (fun _ => tE t) 1⟩ := by
  have hb : Blk (W.alloc (.cells #[.int .i64 t, .int .i8 0, .int .i64 0, .int .u8 0, .slice none 0 0] ty)) W.heap.size #[.int .i64 t, .int .i8 0, .int .i64 0, .int .u8 0, .slice none 0 0] ty := blk_new _ _ _
  refine ⟨rfl, Nat.le_refl _, by unfold maxLen; simp, fun _ => ⟨rfl, hb.lt⟩, fun j hj => ?_, dL_one _ _⟩
  show World.cell? _ ⟨W.heap.size, 0 + j, none⟩ = _
  rw [Nat.zero_add, cell_at hb]
  simp [dL, DE.cells, tE]
set_option maxRecDepth 100000 in
set_option maxHeartbeats 8000000 in
theorem terms_any (b c n : Nat) (T : Nat → Int) (w : World) (hb : b < w.heap.size) (hn : n ≤ 100) (hc : n ≤ c ∧ c ≤ maxLen) (h : ∀ k, k < n → w.cell? ⟨b, k, none⟩ = some (.int .i64 (T k))) (hT : ∀ k, -9223372036854775808 ≤ T k ∧ T k ≤ 9223372036854775807) :
    Calls Try.prog 31 #[.slice (some ⟨b, 0, none⟩) n c] w fun e w' => ∃ v, e = .returned (.agg #[.int .i64 0, .int .i64 0, v]) ∧ RV w' v (tL T n) ∧ Below w.heap.size w w' := by
  obtain ⟨hc1, hc2⟩ := hc
  unfold maxLen at hc2
  have HC := Lib.hid h
  have HT := Lib.hid hT
  clear h hT
  have HB : Hid (Below w.heap.size w w) := Lib.hid (Below.refl _ _)
  go_enter Try.func31, Try.ntmps31
  go_upto_region 2 with fail
  obtain ⟨N, hN⟩ : ∃ n0, n0 = w.heap.size := ⟨_, rfl⟩
  have HLON : Hid (w.heap.size ≤ N) := Lib.hid (by have := HB.out.size; omega)
  obtain ⟨W1, hA0⟩ : ∃ W0, W0 = w.alloc (.cells #[.int .i64 0, .int .i64 0, .slice none 0 0] 24) := ⟨_, rfl⟩
  have hB : Below w.heap.size w W1 := by rw [hA0]; exact (Below.refl _ _).alloc (Nat.le_refl _) _
  have hS0 : W1.heap.size = N + 1 := by rw [hA0]; simp [← hN]
  have HK := Lib.hid (show Blk W1 N #[.int .i64 0, .int .i64 0, .slice none 0 0] 24 by rw [hA0, hN]; exact blk_new _ _ _)
  replace HB := Lib.hid (HB.out.trans (hB.mono HB.out.size))
  clear hB
  obtain ⟨W2, hA1⟩ : ∃ W0, W0 = W1.alloc (.cells #[.int .i64 0, .int .i64 0, .slice none 0 0] 24) := ⟨_, rfl⟩
  have hB : Below W1.heap.size W1 W2 := by rw [hA1]; exact (Below.refl _ _).alloc (Nat.le_refl _) _
  have hS1 : W2.heap.size = N + 2 := by rw [hA1]; simp [hS0]
  have HR := Lib.hid (show Blk W2 (N + 1) #[.int .i64 0, .int .i64 0, .slice none 0 0] 24 by rw [hA1, ← hS0]; exact blk_new _ _ _)
  replace HB := Lib.hid (HB.out.trans (hB.mono HB.out.size))
  replace HK := Lib.hid (HK.out.step hB)
  clear hB
  have HSN := Lib.hid hS1
  rw [← hN, ← hA0, ← hA1]
  clear hA1 hA0 hN hS0 hS1
  obtain ⟨M, hM⟩ : ∃ n0, n0 = W2.heap.size := ⟨_, rfl⟩
  have HLOM : Hid (w.heap.size ≤ M) := Lib.hid (by have := HB.out.size; omega)
  have HFM : Hid (M ≤ W2.heap.size) := Lib.hid (by omega)
  have HXMHK : Hid (N < M) := Lib.hid (by rw [hM]; exact HK.out.lt)
  have HXMHR : Hid ((N + 1) < M) := Lib.hid (by rw [hM]; exact HR.out.lt)
  clear hM
  have HM2 : Hid (N + 1 < M) := HXMHR
  go_wp2_with fail
  go_loopw [5, 8] (fun x k wr => ∃ (i : Nat) (v : Value) (ob : Option Nat), i ≤ n ∧ k = .int .i64 i ∧ OR w M wr v ob (tL T i) ∧ Blk wr (N + 1) #[.int .i64 0, .int .i64 0, v] 24 ∧ Blk wr N #[.int .i64 0, .int .i64 0, .slice none 0 0] 24 ∧ M ≤ wr.heap.size ∧ Below w.heap.size w wr) (fun _ k _ => n - (intOf k).toNat)
  case atStart => exact ⟨0, _, none, Nat.zero_le _, rfl, or_nil w _ M HLOM.out, HR.out, HK.out, HFM.out, HB.out⟩
  case round =>
    obtain ⟨i, v, ob, hi, rfl, hor, hr, hk, hm, hB⟩ := hrel
    clear HK HR HB HFM
    obtain ⟨a3, n3, c3, rfl, Hn3, e1, e2⟩ := hor.sh
    have HN3 : Hid (n3 = i) := Lib.hid (by rw [Hn3.out, tL_len])
    have HOR := Lib.hid hor
    have HR := Lib.hid hr
    have HK := Lib.hid hk
    have HFM := Lib.hid hm
    have HB := Lib.hid hB
    clear hor hr hk hm hB
    by_cases hlt : i < n
    · have b9 : (i < n) = True := eq_true hlt
      have q9 : wr.cell? ⟨b, i, none⟩ = some (.int .i64 (T i)) := (HB.out.cell (p := ⟨b, i, none⟩) hb).trans (HC.out i hlt)
      have l9 : b < wr.heap.size := by have := HB.out.size; omega
      obtain ⟨t, ht⟩ : ∃ t, t = T i := ⟨_, rfl⟩
      rw [← ht] at q9
      have HTE := Lib.hid ht
      have hpc := one_pc wr t 47
      obtain ⟨WQ, hWQ⟩ : ∃ WQ, WQ = wr.alloc (.cells #[.int .i64 t, .int .i8 0, .int .i64 0, .int .u8 0, .slice none 0 0] 47) := ⟨_, rfl⟩
      have hBQ : Below wr.heap.size wr WQ := by rw [hWQ]; exact (Below.refl _ _).alloc (Nat.le_refl _) _
      rw [← hWQ] at hpc
      have htb : -9223372036854775808 ≤ t ∧ t ≤ 9223372036854775807 := by rw [ht]; exact HT.out i
      obtain ⟨v4, ob4, W4, hrun, hor4, hBM⟩ := appP (ty := 22) (F2 := fun _ => tE t) (L2 := [tD t]) (HOR.out.step hBQ) hpc (fun k _ => tE_by t w) rfl (one_p t) (one_ok htb) (Nat.le_trans HFM.out hBQ.size) (by rw [tL_len]; simp; omega)
      rw [ht, ← tL_succ] at hor4
      rw [hWQ] at hrun
      obtain ⟨a4, n4, c4, rfl, Hn4, f1, f2⟩ := hor4.sh
      have HRUN := Lib.hid hrun
      have HOR4 := Lib.hid hor4
      have HB4 : Hid (Below w.heap.size w W4) := Lib.hid ((HB.out.trans (hBQ.mono HB.out.size)).trans (hBM.mono HLOM.out))
      have HR4 := Lib.hid ((HR.out.step hBQ).stepM hBM HM2.out)
      have HK4 := Lib.hid ((HK.out.step hBQ).stepM hBM (by have := HM2.out; omega))
      have HF4 : Hid (M ≤ W4.heap.size) := Lib.hid (Nat.le_trans (Nat.le_trans HFM.out hBQ.size) hBM.size)
      clear hrun hor4 hBM hBQ hpc ht htb hWQ
      have q0 : wr.cell? ⟨N + 1, 2, none⟩ = some (.slice a3 n3 c3) := cell_at HR.out 2
      have l0 : N + 1 < wr.heap.size := HR.out.lt
      have p0 : W4.cell? ⟨N + 1, 2, none⟩ = some (.slice a3 n3 c3) := cell_at HR4.out 2
      have z0 : ∀ j, W4.frozen? ⟨N + 1, j, none⟩ = false := (fun j => free_at HR4.out j)
      have p1 : N + 1 < W4.heap.size := HR4.out.lt
      go_upto_region 6 with (at_builtin; refine Lib.wpList_append_run _ rfl (.tmp 13) (.tmp 16) 22 22 rfl _ _ rfl rfl _ _ HRUN.out ?_)
      obtain ⟨W5, hW5⟩ : ∃ W5, W5 = W4.setCell ⟨N + 1, 2, none⟩ (.slice a4 n4 c4) := ⟨_, rfl⟩
      rw [← hW5]
      have hf5 : Fr [N + 1] W4 W5 := by rw [hW5]; exact (Fr.refl [N + 1] W4).setCell ⟨N + 1, 2, none⟩ (.inl (by simp)) _
      have HR5 : Hid (Blk W5 (N + 1) #[.int .i64 0, .int .i64 0, .slice a4 n4 c4] 24) := Lib.hid (by rw [hW5]; exact HR4.out.set 2 _)
      have HK5 : Hid (Blk W5 N #[.int .i64 0, .int .i64 0, .slice none 0 0] 24) := Lib.hid ((hf5.block N HK4.out.lt (by simp)).trans HK4.out)
      have HOR5 : Hid (OR w M W5 (.slice a4 n4 c4) ob4 (tL T (i + 1))) := Lib.hid (by
        obtain ⟨h0, F, r1, r2, r3, r4, r5⟩ := HOR4.out
        exact ⟨h0, F, r1.congr fun g e => hf5.block g (by subst e; exact r1.lt) (by have := r5 g e; have := HM2.out; simp; omega), r2, r3, r4, r5⟩)
      have HB5 : Hid (Below w.heap.size w W5) := Lib.hid (HB4.out.trans (hf5.below HB4.out.size (by have := HLON.out; simp; omega)))
      have HF5 : Hid (M ≤ W5.heap.size) := Lib.hid (Nat.le_trans HF4.out hf5.size)
      clear hW5 hf5
      go_wp2_with fail
      go_roundw
      case rel => exact ⟨i + 1, _, ob4, by omega, by go_num, HOR5.out, HR5.out, HK5.out, HF5.out, HB5.out⟩
      case measure => first | (simp [intOf]; done) | (simp [intOf]; omega)
    · have b9 : (i < n) = False := eq_false hlt
      obtain rfl : i = n := by omega
      have HRV := Lib.hid (HOR.out.rv HB.out (by rw [tL_len]; omega))
      have qK0 : wr.cell? ⟨N, 0, none⟩ = some (.int .i64 0) := cell_at HK.out 0
      have qK1 : wr.cell? ⟨N, 1, none⟩ = some (.int .i64 0) := cell_at HK.out 1
      have qK2 : wr.cell? ⟨N, 2, none⟩ = some (.slice none 0 0) := cell_at HK.out 2
      have qKz : ∀ j, wr.frozen? ⟨N, j, none⟩ = false := fun j => free_at HK.out j
      have qKl : N < wr.heap.size := HK.out.lt
      have qR0 : wr.cell? ⟨(N + 1), 0, none⟩ = some (.int .i64 0) := cell_at HR.out 0
      have qR1 : wr.cell? ⟨(N + 1), 1, none⟩ = some (.int .i64 0) := cell_at HR.out 1
      have qR2 : wr.cell? ⟨(N + 1), 2, none⟩ = some (.slice a3 n3 c3) := cell_at HR.out 2
      have qRz : ∀ j, wr.frozen? ⟨(N + 1), j, none⟩ = false := fun j => free_at HR.out j
      have qRl : (N + 1) < wr.heap.size := HR.out.lt
      go_wp2_with fail
      clear qK0 qK1 qK2 qKz qKl qR0 qR1 qR2 qRz qRl
      obtain ⟨LS, hLS⟩ : ∃ L : List Value, L = [.int .i64 0, .int .i64 0, .slice a3 n3 c3] := ⟨_, rfl⟩
      obtain ⟨W3, hWS⟩ : ∃ WS, WS = wr.setCells N 0 LS := ⟨_, rfl⟩
      have hch := hWS
      rw [hLS] at hch
      simp only [World.setCells, Nat.zero_add, Nat.reduceAdd] at hch
      rw [← hch]
      clear hch
      have hkS := stC_blk HK.out LS (by rw [hLS]; rfl)
      have hfS := stC_fr N LS 0 wr
      rw [← hWS] at hkS hfS
      rw [hLS] at hkS
      replace HB := Lib.hid (HB.out.trans (hfS.below HB.out.size (by have := HLON.out; simp; try omega)))
      replace HR := Lib.hid (show Blk W3 (N + 1) #[.int .i64 0, .int .i64 0, .slice a3 n3 c3] 24 from (hfS.block _ HR.out.lt (by simp; try omega)).trans HR.out)
      replace HRV := Lib.hid (HRV.out.fr HK.out hfS)
      replace HK := Lib.hid (show Blk W3 N #[.int .i64 0, .int .i64 0, .slice a3 n3 c3] 24 from hkS)
      clear hWS hLS hkS hfS
      have qK0 : W3.cell? ⟨N, 0, none⟩ = some (.int .i64 0) := cell_at HK.out 0
      have qK1 : W3.cell? ⟨N, 1, none⟩ = some (.int .i64 0) := cell_at HK.out 1
      have qK2 : W3.cell? ⟨N, 2, none⟩ = some (.slice a3 n3 c3) := cell_at HK.out 2
      have qKz : ∀ j, W3.frozen? ⟨N, j, none⟩ = false := fun j => free_at HK.out j
      have qKl : N < W3.heap.size := HK.out.lt
      exact bodyPost_ret (v := .agg #[.int .i64 0, .int .i64 0, .slice a3 n3 c3]) (by simp [results, Try.results31, go_sem, qK0, qK1, qK2]) rfl ⟨_, rfl, HRV.out, HB.out⟩
end Go.Proofs.Ytcadinoijclfnaa
