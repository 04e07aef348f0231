/-
  A table copied; a call refused.
-/
import Derived.Test.YtpgpcgpecpimlaaPo8
import Derived.Test.YtpgpcgpecpimlaaLz
import Derived.Test.YtpgpcgpecpimlaaPo2
import Derived.Deep.RegionLaw
namespace Go.Proofs.Ytpgpcgpecpimlaa
open Go.RowKit
set_option linter.unusedSimpArgs false
set_option linter.unusedVariables false

theorem tnZero : (Try.prog.info? 72).map (fun i => (i.zero, i.size, i.bytes)) = some (some z0.agg, 5, 40) := by kernel_rfl
theorem tnL_one (E : Nat → TnE) (n : Nat) : ∀ u ∈ tnL E n, u.oneCell' = true := by
  intro u hu
  simp only [tnL, List.mem_flatMap] at hu
  obtain ⟨k, _, hk⟩ := hu
  have : (E k).cells.all (fun u => u.oneCell') = true := rfl
  exact List.all_eq_true.1 this u hk
theorem tn_at2 {W : World} {a : Option Addr} {n c b o : Nat} {E : Nat → TnE} (h : TnIn W a n c b o E) (j : Nat) (u : Value) (hu : (tnL E n)[j]? = some u) : W.cell? ⟨b, o + j, none⟩ = some u := by
  have hj : j < n * 5 := by have := (List.getElem?_eq_some_iff.1 hu).1; rwa [tnL_len] at this
  obtain ⟨k, i, hk, hi, rfl⟩ : ∃ k i, k < n ∧ i < 5 ∧ j = k * 5 + i := ⟨j / 5, j % 5, by omega, by omega, by omega⟩
  rw [tnL_at E n k i hk hi] at hu
  obtain ⟨c0, c1, c2, c3, c4⟩ := h.cell k hk
  have hi3 : i = 0 ∨ i = 1 ∨ i = 2 ∨ i = 3 ∨ i = 4 := by omega
  rcases hi3 with rfl | rfl | rfl | rfl | rfl
  · simp [TnE.cells] at hu; subst hu; exact c0
  · simp [TnE.cells] at hu; subst hu; rw [← Nat.add_assoc]; exact c1
  · simp [TnE.cells] at hu; subst hu; rw [← Nat.add_assoc]; exact c2
  · simp [TnE.cells] at hu; subst hu; rw [← Nat.add_assoc]; exact c3
  · simp [TnE.cells] at hu; subst hu; rw [← Nat.add_assoc]; exact c4
/-- likewise, and its block is no older than m -/
def TVo (m : Nat) (W : World) (v : Value) (L : List TnE) : Prop := ∃ a b o cap, v = .slice a L.length cap ∧ TnIn W a L.length cap b o (gt L) ∧ (0 < L.length → m ≤ b)
theorem TVo.tv {m : Nat} {W : World} {v : Value} {L : List TnE} (h : TVo m W v L) : TV W v L := by
  obtain ⟨a, b, o, c, e, h, _⟩ := h
  exact ⟨a, b, o, c, e, h⟩
theorem TVo.le {m m' : Nat} {W : World} {v : Value} {L : List TnE} (h : TVo m W v L) (hm : m' ≤ m) : TVo m' W v L := by
  obtain ⟨a, b, o, c, e, h, h2⟩ := h
  exact ⟨a, b, o, c, e, h, fun hl => Nat.le_trans hm (h2 hl)⟩
theorem TVo.below {m : Nat} {W W' : World} {v : Value} {L : List TnE} (h : TVo m W v L) (hB : Below W.heap.size W W') : TVo m W' v L := by
  obtain ⟨a, b, o, c, e, h, h2⟩ := h
  exact ⟨a, b, o, c, e, h.below hB, h2⟩
theorem TVo.fr {m N : Nat} {W W' : World} {v : Value} {L : List TnE} (h : TVo m W v L) (hf : Fr [N] W W') (hN : N < m) : TVo m W' v L := by
  obtain ⟨a, b, o, c, e, h, h2⟩ := h
  refine ⟨a, b, o, c, e, ⟨h.le, h.max, fun hk => ⟨(h.at_ hk).1, by have := (h.at_ hk).2; have := hf.size; omega⟩, fun k hk => ?_, h.bd⟩, h2⟩
  have hb := (h.at_ (by omega)).2
  have hm := h2 (by omega)
  obtain ⟨c0, c1, c2, c3, c4⟩ := h.cell k hk
  have hbl := hf.block b hb (by simp; omega)
  have hc : ∀ q, W'.cell? ⟨b, q, none⟩ = W.cell? ⟨b, q, none⟩ := fun q => by unfold World.cell?; rw [hbl]
  exact ⟨(hc _).trans c0, (hc _).trans c1, (hc _).trans c2, (hc _).trans c3, (hc _).trans c4⟩
theorem tvo_row {m : Nat} {W : World} {v : Value} {ob : Option Nat} {L : List TnE} (h : Row W v ob 72 5 L.length (listL L)) (ho : okL L) (hg : ∀ g, ob = some g → m ≤ g) : TVo m W v L := by
  have hl := h
  rw [tnL_gt] at h
  obtain ⟨a, c, e, h2⟩ := tn_row h (okL_gt ho)
  refine ⟨a, _, 0, c, e, h2, fun hk => ?_⟩
  obtain ⟨g, hg2, _⟩ := hl.cell 0 (by omega)
  subst hg2
  exact hg g rfl
set_option maxRecDepth 100000 in
set_option maxHeartbeats 4000000 in
theorem tclone_any (a : Option Addr) (n c b o : Nat) (P : Nat → TnE) (w : World) (h1 : TnIn w a n c b o P) (hn5 : n ≤ 5000) :
    Calls Try.prog 90 #[.slice a n c] w fun e w' => ∃ v ob, e = .returned v ∧ Row w' v ob 72 5 n (tnL P n) ∧ (∀ g, ob = some g → w.heap.size ≤ g) ∧ Below w.heap.size w w' := by
  obtain ⟨i0, hi, hz0, hz1, hz2⟩ := info_parts tnZero
  have HI := Lib.hid hi
  have HZ0 := Lib.hid hz0
  have HZ1 := Lib.hid hz1
  have HZ2 := Lib.hid hz2
  have hm := h1.max
  have hl := h1.le
  unfold maxLen at hm
  have HA := Lib.hid h1
  clear h1 hi hz0 hz1 hz2
  cases a with
  | none =>
    obtain rfl : n = 0 := by
      rcases Nat.eq_zero_or_pos n with h | h
      · exact h
      · exact absurd (HA.out.at_ h).1 (by simp)
    have hnil : ∀ W, (binOp .eql 60 (.slice none 0 c) (.slice none 0 0)).run Try.prog W = .ok (.bool true) W := fun _ => rfl
    go_enter Try.func90, Try.ntmps90
    go_wp2_with fail
    go_ret
    exact ⟨_, none, rfl, Row.nil _ _ _, (fun _ h => by cases h), Below.refl _ _⟩
  | some p =>
    have hnil : ∀ W, (binOp .eql 60 (.slice (some p) n c) (.slice none 0 0)).run Try.prog W = .ok (.bool false) W := fun _ => rfl
    go_enter Try.func90, Try.ntmps90
    have HR0 : Hid (Row (w.alloc (.cells #[] 72)) (.slice (some ⟨w.heap.size, 0, none⟩) 0 0) (some w.heap.size) 72 5 0 (tnL P 0)) := Lib.hid (Row.mk (heap_alloc_new w _) (Nat.le_refl _) (by unfold maxLen; omega) rfl rfl)
    have HB0 : Hid (Below w.heap.size w (w.alloc (.cells #[] 72))) := Lib.hid ((Below.refl _ _).alloc (Nat.le_refl _) _)
    by_cases h0 : n = 0
    · subst h0
      go_wp2_with (at_builtin; refine wpList_append_row_zero _ rfl (.tmp 5) (.tmp 6) 60 rfl 72 i0 5 Try.underlying60 HI.out _ _ 0 _ rfl HR0.out (some p) c rfl ?_)
      go_wp2_with fail
      go_ret
      exact ⟨_, some w.heap.size, rfl, HR0.out, (fun g e => by obtain rfl := Option.some.inj e; exact Nat.le_refl _), HB0.out⟩
    · obtain ⟨e0, e1⟩ := HA.out.at_ (by omega)
      obtain rfl : p = ⟨b, o, none⟩ := Option.some.inj e0
      have hb8 : (0 + (n : Int)) * 40 ≤ 140737488355328 := by omega
      go_wp2_with (at_builtin; refine wpList_append_row _ rfl (.tmp 5) (.tmp 6) 60 rfl 72 i0 _ 5 40 Try.underlying60 HI.out HZ0.out HZ1.out HZ2.out rfl (by decide) _ _ 0 (tnL P 0) rfl HR0.out ⟨b, o, none⟩ n c (tnL P n) rfl (by omega) (tnL_len P n) ?c1 (tnL_one P n) ?c3 ?c4 ?_)
      case c1 => first | exact fun j u hu => tn_at2 HA.out j u hu | exact fun j u hu => tn_at2 (HA.out.below HB0.out) j u hu
      case c3 => unfold maxLen; omega
      case c4 => omega
      intro v' ob' W3 hrow3 hg3 hob3
      have hB3 : Below w.heap.size w W3 := HB0.out.grown hg3 (by simp) (fun g e => by obtain rfl := Option.some.inj e; exact Nat.le_refl _)
      have hrow4 : Row W3 v' (some ob') 72 5 n (tnL P n) := by
        first | exact hrow3 | (rw [Nat.zero_add] at hrow3; exact hrow3)
      have HB3 := Lib.hid hB3
      have HR4 := Lib.hid hrow4
      have HOB : Hid (w.heap.size ≤ ob') := Lib.hid (by
        rcases hob3 with h | h
        · exact Nat.le_of_eq (by first | exact h | exact Option.some.inj h)
        · rw [h]; simp)
      clear hrow3 hg3 hob3 hrow4 hB3
      go_wp2_with fail
      go_ret
      exact ⟨v', some ob', rfl, HR4.out, (fun g e => by obtain rfl := Option.some.inj e; exact HOB.out), HB3.out⟩

theorem clone_tv (v : Value) (L : List TnE) (w : World) (h : TV w v L) (hn : L.length ≤ 200) : Calls Try.prog 90 #[v] w fun e w' => ∃ v', e = .returned v' ∧ TVo w.heap.size w' v' L ∧ Below w.heap.size w w' := by
  have hok := h.ok
  obtain ⟨a, b, o, cap, rfl, h⟩ := h
  have := tclone_any a L.length cap b o (gt L) w h (by omega)
  rw [← tnL_gt] at this
  refine this.mono ?_
  rintro e w' ⟨v', ob, rfl, hr, ho, hB⟩
  exact ⟨v', rfl, tvo_row hr hok ho, hB⟩
set_option maxRecDepth 100000 in
set_option maxHeartbeats 4000000 in
theorem refuse_any (v : Value) (L : List TnE) (er : Int) (w : World) (h : TV w v L) (hn : L.length ≤ 200) : Calls Try.prog 75 #[v, .int .i64 er] w fun e w' => ∃ v', e = .returned (.tuple #[v', ansV er 0 0]) ∧ TVo w.heap.size w' v' L ∧ Below w.heap.size w w' := by
  have HOK := Lib.hid h.ok
  obtain ⟨N, hN⟩ : ∃ N, N = w.heap.size := ⟨_, rfl⟩
  obtain ⟨W1, hW1⟩ : ∃ W1, W1 = w.alloc (.cells #[.int .i64 0, .int .i64 0, .int .i64 0, .int .i64 0, .int .i64 0] 63) := ⟨_, rfl⟩
  have hB1 : Below w.heap.size w W1 := by rw [hW1]; exact (Below.refl _ _).alloc (Nat.le_refl _) _
  have HK1 : Hid (Blk W1 N #[.int .i64 0, .int .i64 0, .int .i64 0, .int .i64 0, .int .i64 0] 63) := Lib.hid (by rw [hW1, hN]; exact blk_new _ _ _)
  have HV1 := Lib.hid (h.below hB1)
  have HB1 := Lib.hid hB1
  have HNB : Hid (w.heap.size ≤ N) := Lib.hid (by rw [hN]; exact Nat.le_refl _)
  clear hB1 h
  have HSZ : Hid (w.heap.size ≤ W1.heap.size) := Lib.hid HB1.out.size
  have HCL := Lib.hid (clone_tv v L W1 HV1.out hn)
  go_enter Try.func75, Try.ntmps75
  go_upto_region 1 with fail
  rw [← hN, ← hW1]
  clear hN hW1
  go_wp2_with fail
  go_at_call 90
  refine Calls.mono HCL.out ?_
  rintro e W2 ⟨v2, rfl, hv2, hB2⟩
  have HV2 := Lib.hid hv2
  have HN1 := Lib.hid HK1.out.lt
  have HK2 := Lib.hid (HK1.out.step hB2)
  have HB2 := Lib.hid (HB1.out.trans (hB2.mono HB1.out.size))
  clear hv2 hB2 HK1 HB1 HCL
  have q0 : W2.cell? ⟨N, 0, none⟩ = some (.int .i64 0) := cell_at HK2.out 0
  have q1 : W2.cell? ⟨N, 1, none⟩ = some (.int .i64 0) := cell_at HK2.out 1
  have q2 : W2.cell? ⟨N, 2, none⟩ = some (.int .i64 0) := cell_at HK2.out 2
  have q3 : W2.cell? ⟨N, 3, none⟩ = some (.int .i64 0) := cell_at HK2.out 3
  have q4 : W2.cell? ⟨N, 4, none⟩ = some (.int .i64 0) := cell_at HK2.out 4
  have zq : ∀ j, W2.frozen? ⟨N, j, none⟩ = false := fun j => free_at HK2.out j
  have lq : N < W2.heap.size := HK2.out.lt
  go_wp2_with fail
  clear q0 q1 q2 q3 q4
  obtain ⟨LS, hLS⟩ : ∃ L : List Value, L = [.int .i64 er, .int .i64 0, .int .i64 0, .int .i64 0, .int .i64 0] := ⟨_, rfl⟩
  obtain ⟨WS, hWS⟩ : ∃ WS, WS = W2.setCells (N) 0 LS := ⟨_, rfl⟩
  have hchS := hWS
  rw [hLS] at hchS
  simp only [World.setCells, Nat.zero_add, Nat.reduceAdd] at hchS
  rw [← hchS]
  clear hchS
  have hkS := stC_blk HK2.out LS (by rw [hLS]; rfl)
  have hfrS := stC_fr (N) LS 0 W2
  rw [← hWS] at hkS hfrS
  rw [hLS] at hkS
  have r0 : WS.cell? ⟨N, 0, none⟩ = some (.int .i64 er) := cell_at hkS 0
  have r1 : WS.cell? ⟨N, 1, none⟩ = some (.int .i64 0) := cell_at hkS 1
  have r2 : WS.cell? ⟨N, 2, none⟩ = some (.int .i64 0) := cell_at hkS 2
  have r3 : WS.cell? ⟨N, 3, none⟩ = some (.int .i64 0) := cell_at hkS 3
  have r4 : WS.cell? ⟨N, 4, none⟩ = some (.int .i64 0) := cell_at hkS 4
  clear hWS hLS
  have hBS := HB2.out.trans (hfrS.below HB2.out.size (by have := HNB.out; simp; omega))
  exact bodyPost_ret (v := .tuple #[v2, .agg #[.int .i64 er, .int .i64 0, .int .i64 0, .int .i64 0, .int .i64 0]]) (by simp [results, Try.results75, go_sem, r0, r1, r2, r3, r4]) rfl ⟨v2, rfl, (HV2.out.fr hfrS HN1.out).le HSZ.out, hBS⟩
end Go.Proofs.Ytpgpcgpecpimlaa
