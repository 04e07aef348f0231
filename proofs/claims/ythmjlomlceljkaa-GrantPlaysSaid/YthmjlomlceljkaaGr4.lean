/-
  Over: the leases of a state that are over, least first.
-/
import Derived.Test.YthmjlomlceljkaaGr3
import Derived.StillTailTactics
namespace Go.Proofs.Ythmjlomlceljkaa
open Go.RowKit
set_option linter.unusedSimpArgs false
set_option linter.unusedVariables false

/-- what Over answers: a row of the call's own, sorted -/
def OverP (l : List Int) (w w' : World) (v : Value) : Prop := ∃ ob, Row w' v ob 3 1 l.length (valsI (sortedI l)) ∧ ∀ g, ob = some g → w.heap.size ≤ g

theorem sort_any {w : World} {v : Value} {ob : Option Nat} {l : List Int} (h : Row w v ob 3 1 l.length (valsI l)) (hl : l.length ≤ 4096) {B : Nat} (hB : B ≤ w.heap.size) (ho : ∀ g, ob = some g → B ≤ g) :
    Calls Try.prog 36 #[v] w fun e w' => e = .returned (.tuple #[]) ∧ Row w' v ob 3 1 l.length (valsI (sortedI l)) ∧ Below B w w' := by
  obtain ⟨a, cap, rfl, h1, h2, h3⟩ := h.shape
  cases ob with
  | none =>
    have hl0 : l = [] := by
      rcases h.cases with ⟨_, _, e, _⟩ | ⟨g', cap', cur, e, _⟩
      · exact List.eq_nil_of_length_eq_zero e
      · cases e
    subst hl0
    refine (Try.slices_Sort_int_none a cap w).mono ?_
    rintro e w' ⟨rfl, rfl⟩
    exact ⟨rfl, by simpa [sortedI] using h, Below.refl _ _⟩
  | some g =>
    subst h3
    refine (sort_row h hl).mono ?_
    rintro e w' ⟨rfl, h4, hf⟩
    exact ⟨rfl, h4, hf.below hB (fun x hx => (List.mem_singleton.1 hx) ▸ ho g rfl)⟩

set_option maxRecDepth 100000 in
set_option maxHeartbeats 4000000 in
theorem gover_any (t : Int) (s0 s1 s2 : Int) (a : Option Addr) (n cap bl o : Nat) (F : Nat → LeE) (g b : Nat) (el now la : Int) (M : Int → Option Int) (w : World) (hs : LeIn w a n cap bl o F) (hn : n ≤ 4096) (hg : bl ≠ g) (hd : DkIn w g b el now la M) (hf : fitD el (max now t) M) :
    Calls Try.prog 14 #[.pointer (some ⟨g, 0, none⟩), .agg #[.int .i64 s0, .int .i64 s1, .int .i64 s2, .slice none 0 0, .slice a n cap, .slice none 0 0, .slice none 0 0], .int .i64 t] w fun e w' => ∃ v, e = .returned v ∧ OverP (ovL (overB el (max now t) la M) F n) w w' v ∧ DkIn w' g b el (max now t) la M ∧ Fr [g] w w' := by
  have m1 := hs.le
  have m2 := hs.max
  unfold maxLen at m2
  obtain ⟨N, hN⟩ : ∃ N, N = w.heap.size := ⟨_, rfl⟩
  obtain ⟨T, hT⟩ : ∃ T, T = max now t := ⟨_, rfl⟩
  have e1 : (if now < t then t else now) = T := by rw [hT]; split <;> omega
  have e2 : max now t = T := hT.symm
  rw [← hT] at hf ⊢
  have hlt := hd.blk.lt
  have hblt := hd.map.lt
  have hne := hd.ne
  obtain ⟨W1, hW1⟩ : ∃ W1, W1 = (w.alloc (.cells #[.pointer (some ⟨g, 0, none⟩)] 24)).alloc (.cells #[.int .i64 s0, .int .i64 s1, .int .i64 s2, .slice none 0 0, .slice a n cap, .slice none 0 0, .slice none 0 0] 42) := ⟨_, rfl⟩
  have hB1 : Below w.heap.size w W1 := by rw [hW1]; exact ((Below.refl _ _).alloc (Nat.le_refl _) _).alloc (by simp) _
  have p1 : Blk W1 N #[.pointer (some ⟨g, 0, none⟩)] 24 := by rw [hW1, hN]; exact (blk_new _ _ _).alloc _
  have q1 : Blk W1 (N + 1) #[.int .i64 s0, .int .i64 s1, .int .i64 s2, .slice none 0 0, .slice a n cap, .slice none 0 0, .slice none 0 0] 42 := by
    rw [hW1, hN]
    have := blk_new (w.alloc (.cells #[.pointer (some ⟨g, 0, none⟩)] 24)) #[.int .i64 s0, .int .i64 s1, .int .i64 s2, .slice none 0 0, .slice a n cap, .slice none 0 0, .slice none 0 0] 42
    rw [World.size_alloc] at this
    exact this
  have d1 := hd.below hB1
  have hs1 := hs.below hB1
  obtain ⟨W2, hW2⟩ : ∃ W2, W2 = (W1.setCell ⟨g, 1, none⟩ (.int .i64 T)).drew := ⟨_, rfl⟩
  have hoth : ∀ k, k ≠ g → W2.heap[k]? = W1.heap[k]? := fun k hk => by rw [hW2]; exact heap_setCell_ne _ _ _ _ hk
  have p2 : Blk W2 N #[.pointer (some ⟨g, 0, none⟩)] 24 := (hoth N (by omega)).trans p1
  have q2 : Blk W2 (N + 1) #[.int .i64 s0, .int .i64 s1, .int .i64 s2, .slice none 0 0, .slice a n cap, .slice none 0 0, .slice none 0 0] 42 := (hoth (N + 1) (by omega)).trans q1
  have d2 : DkIn W2 g b el T la M := ⟨by rw [hW2]; exact d1.blk.set 1 _, d1.map.congr (hoth b (fun e => hne e.symm)), hne⟩
  have hf2 : Fr [g] w W2 := by rw [hW2]; exact (((Fr.of_below hB1).mono (by simp)).setCell ⟨g, 1, none⟩ (.inl (by simp)) _).drew
  have hz2 : W2.heap.size = W1.heap.size := by rw [hW2]; simp
  have hs2 : LeIn W2 a n cap bl o F := ⟨hs1.le, hs1.max, fun hk => ⟨(hs1.at_ hk).1, by rw [hz2]; exact (hs1.at_ hk).2⟩, fun k hk => by
    have hc := hs1.cell k hk
    have hcc : ∀ j, W2.cell? ⟨bl, j, none⟩ = W1.cell? ⟨bl, j, none⟩ := fun j => by unfold World.cell?; rw [hoth bl hg]
    simpa only [hcc] using hc, hs1.bd⟩
  have c0 : W1.cell? ⟨N, 0, none⟩ = some (.pointer (some ⟨g, 0, none⟩)) := cell_at p1 0
  have c1 : W1.cell? ⟨g, 1, none⟩ = some (.int .i64 now) := cell_at d1.blk 1
  have z1 := free_at d1.blk 1
  have x4 : W2.cell? ⟨N + 1, 4, none⟩ = some (.slice a n cap) := cell_at q2 4
  have l1 := d1.blk.lt
  have l2 := p1.lt
  have l3 := q2.lt
  have HG := Lib.hid (gather_any a n cap bl o F N g b el T la M W2 hs2 hn p2 d2 hf)
  have hLn := ovL_len (overB el T la M) F n
  obtain ⟨L, hL⟩ : ∃ L, L = ovL (overB el T la M) F n := ⟨_, rfl⟩
  rw [← hL] at HG hLn ⊢
  have D2 := Lib.hid d2
  have F2 := Lib.hid hf2
  have HNN : Hid (g < w.heap.size ∧ b < w.heap.size ∧ w.heap.size ≤ W2.heap.size) := Lib.hid ⟨hlt, hblt, hf2.size⟩
  clear hs hs1 hs2 hd d1 d2 hf hf2 p1 p2 q1 q2 hT hL hoth hB1 hz2 hne
  go_enter Try.func14, Try.ntmps14
  go_upto_region 3 with fail
  rw [← hN, ← hW1]
  clear hW1 hN
  go_still_tail 9, (by kernel_rfl)
  change wpList _ _ _ _ _ W1.drew
  go_upto_region 4 with fail
  rw [← hW2]
  clear hW2 c0 c1 z1
  go_wp2_with fail
  go_at_call 33
  refine Calls.mono HG.out ?_
  rintro e W3 ⟨v, ob, rfl, hr3, ho3, hB3⟩
  have HD3 := Lib.hid (D2.out.below hB3)
  have HF3 := Lib.hid (F2.out.trans (Fr.of_below hB3) (by simp))
  have HST := Lib.hid (sort_any hr3 (by omega) (B := w.heap.size) (by have := hB3.size; have := HNN.out.2.2; omega) (fun g' e => by have := ho3 g' e; have := HNN.out.2.2; omega))
  have HO := Lib.hid (fun g' e => Nat.le_trans HNN.out.2.2 (ho3 g' e))
  have HS3 := Lib.hid hB3.size
  clear hr3 ho3 hB3
  go_wp2_with fail
  go_at_call 36
  refine Calls.mono HST.out ?_
  rintro e W4 ⟨rfl, hr4, hB4⟩
  have HR4 := Lib.hid hr4
  have HB4 := Lib.hid hB4
  clear hr4 hB4
  go_wp2_with fail
  go_ret
  refine ⟨_, rfl, ⟨ob, HR4.out, HO.out⟩, ⟨(HB4.out.block g HNN.out.1).trans HD3.out.blk, HD3.out.map.congr (HB4.out.block b HNN.out.2.1), HD3.out.ne⟩, ?_⟩
  exact ⟨HB4.out.os.trans HF3.out.os, HB4.out.tape.trans HF3.out.tape, HB4.out.output.trans HF3.out.output, Nat.le_trans HF3.out.size HB4.out.size, fun k hk hn => (HB4.out.block k hk).trans (HF3.out.block k hk hn)⟩
end Go.Proofs.Ythmjlomlceljkaa
