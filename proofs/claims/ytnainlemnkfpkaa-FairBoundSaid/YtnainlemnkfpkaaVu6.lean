/-
  Package virtual: the document's copy.
-/
import Derived.Test.YtnainlemnkfpkaaVu5
namespace Go.Proofs.Ytnainlemnkfpkaa
open Go.RowKit
set_option linter.unusedSimpArgs false
set_option linter.unusedVariables false

/-- the copy while it grows -/
def CopyR (w : World) (V : Int) (a : Option Addr) (n c : Nat) (T : Nat → TagsE) (k : Nat) (wr : World) : Prop := ∃ v ob, wr.heap[w.heap.size + 2]? = some (.cells #[.int .i64 V, v] 39 (0, 0)) ∧ Row wr v ob 80 2 k (tagsL T k) ∧ Below w.heap.size w wr ∧ (∀ g, ob = some g → w.heap.size + 3 ≤ g) ∧
  wr.heap[w.heap.size]? = some (.cells #[.int .i64 V, .slice a n c] 39 (0, 0)) ∧ wr.heap[w.heap.size + 1]? = some (.cells #[.int .i64 0, .slice none 0 0] 39 (0, 0))

theorem copyR_step {w W1 w2 : World} {V : Int} {a : Option Addr} {n c : Nat} {T : Nat → TagsE} {k : Nat} {ob : Option Nat} {a' : Option Addr} {cap' ob' : Nat} {v : Value} {s f : Int} (ht : T k = ⟨s, f⟩) (h1 : Below w.heap.size w W1) (hs : w.heap.size + 3 ≤ W1.heap.size) (hO : ∀ g, ob = some g → w.heap.size + 3 ≤ g)
    (HRow2 : Row w2 (.slice a' (k + 1) cap') (some ob') 80 2 (k + 1) (tagsL T k ++ [.int .i64 s, .int .i64 f])) (HG2 : W1.grownBy w2 ob) (HOB2 : ob = some ob' ∨ ob' = W1.heap.size)
    (hb2 : w2.heap[w.heap.size + 2]? = some (.cells #[.int .i64 V, v] 39 (0, 0))) (hb0 : w2.heap[w.heap.size]? = some (.cells #[.int .i64 V, .slice a n c] 39 (0, 0))) (hb1 : w2.heap[w.heap.size + 1]? = some (.cells #[.int .i64 0, .slice none 0 0] 39 (0, 0))) :
    CopyR w V a n c T (k + 1) (w2.setCell ⟨w.heap.size + 2, 1, none⟩ (.slice a' (k + 1) cap')) := by
  have hob : w.heap.size + 3 ≤ ob' := by
    rcases HOB2 with h | h
    · exact hO _ h
    · omega
  refine ⟨.slice a' (k + 1) cap', some ob', heap_setCell_same hb2 1 _, ?_, ?_, (fun g e => by obtain rfl := Option.some.inj e; exact hob), ?_, ?_⟩
  · rw [tagsL_succ, ht]
    exact HRow2.congr fun g e => by obtain rfl := Option.some.inj e; exact heap_setCell_ne _ _ _ _ (by simp only; omega)
  · exact (h1.grown HG2 (by have := h1.size; omega) (fun g e => by have := hO g e; omega)).setCell (by simp) _
  · rw [heap_setCell_ne _ _ _ _ (by simp)]
    exact hb0
  · rw [heap_setCell_ne _ _ _ _ (by simp)]
    exact hb1

set_option maxRecDepth 100000 in
set_option maxHeartbeats 4000000 in
theorem copied_any (V : Int) (a : Option Addr) (n c b o : Nat) (T : Nat → TagsE) (w : World) (hs : TagsIn w a n c b o T) (hn : n * 16 ≤ 140737488351232) :
    Calls Try.prog 52 #[.agg #[.int .i64 V, .slice a n c]] w fun e w' => ∃ v, e = .returned v ∧ VOut w w' v V n T := by
  obtain ⟨i0, hi, hz0, hz1, hz2⟩ := info_parts infoTags
  have HI := Lib.hid hi
  have HZ0 := Lib.hid hz0
  have HZ1 := Lib.hid hz1
  have HZ2 := Lib.hid hz2
  have HS := Lib.hid hs
  have hm := hs.max
  have hl := hs.le
  unfold maxLen at hm
  clear hi hz0 hz1 hz2 hs
  go_enter Try.func52, Try.ntmps52
  go_wp2_with fail
  go_loopw [4] (fun i wr => ∃ k : Nat, k ≤ n ∧ i = .int .i64 k ∧ CopyR w V a n c T k wr) (fun i _ => n - (intOf i).toNat)
  case atStart =>
    refine ⟨0, Nat.zero_le _, rfl, .slice none 0 0, none, ?_, Row.nil _ _ _, ?_, (fun _ e => by cases e), ?_, ?_⟩
    · refine Eq.trans (congrArg (fun k => _root_.GetElem?.getElem? _ k) ?_) (heap_alloc_new _ _)
      simp
    · exact (((Below.refl _ _).alloc (Nat.le_refl _) _).alloc (by simp) _).alloc (by simp; omega) _
    · rw [Below.heap_alloc _ _ _ (by simp; omega), Below.heap_alloc _ _ _ (by simp)]
      exact heap_alloc_new _ _
    · rw [Below.heap_alloc _ _ _ (by simp)]
      refine Eq.trans (congrArg (fun k => _root_.GetElem?.getElem? _ k) ?_) (heap_alloc_new _ _)
      simp
  case round =>
    obtain ⟨k, hk, rfl, v, ob, hb, hrow, hbel, hob, hb0, hb1⟩ := hrel
    have d0 := cell_at hb0 0
    have d1 := cell_at hb0 1
    have g0 := free_at hb0 0
    have g1 := free_at hb0 1
    have c0 := cell_at hb 0
    have c1 := cell_at hb 1
    have f1 := free_at hb 1
    by_cases hlt : k < n
    · obtain ⟨e0, e1⟩ := HS.out.at_ (by omega)
      subst e0
      obtain ⟨k0, k1⟩ := (HS.out.below hbel).cell k hlt
      have HR := Lib.hid hrow
      have HB := Lib.hid hb
      have HB0 := Lib.hid hb0
      have HB1 := Lib.hid hb1
      have HO := Lib.hid hob
      clear hrow hb hb0 hb1 hob
      obtain ⟨s, hs⟩ : ∃ s, s = (T k).s := ⟨_, rfl⟩
      obtain ⟨f, hf⟩ : ∃ f, f = (T k).f := ⟨_, rfl⟩
      rw [← hs] at k0
      rw [← hf] at k1
      have HT : Hid (T k = ⟨s, f⟩) := Lib.hid (by rw [hs, hf])
      clear hs hf
      have hlN : w.heap.size + 2 < wr.heap.size := lt_of_block HB.out
      have hBx : ∀ o, (wr.alloc o).heap[w.heap.size + 2]? = some _ := fun o => (Below.heap_alloc wr o _ hlN).trans HB.out
      have hBy : ∀ o, (wr.alloc o).heap[w.heap.size]? = some _ := fun o => (Below.heap_alloc wr o _ (by omega)).trans HB0.out
      have hBz : ∀ o, (wr.alloc o).heap[w.heap.size + 1]? = some _ := fun o => (Below.heap_alloc wr o _ (by omega)).trans HB1.out
      have HBX := Lib.hid hBx
      have HBY := Lib.hid hBy
      have HBZ := Lib.hid hBz
      have hne : ob ≠ some (w.heap.size + 2) := fun e => by have := HO.out _ e; omega
      have hne0 : ob ≠ some w.heap.size := fun e => by have := HO.out _ e; omega
      have hne1 : ob ≠ some (w.heap.size + 1) := fun e => by have := HO.out _ e; omega
      have HNE := Lib.hid hne
      have HNE0 := Lib.hid hne0
      have HNE1 := Lib.hid hne1
      clear hBx hBy hBz hne hne0 hne1
      go_wp2_with fail
      go_region_law (refine step_append_row rfl (.tmp 16) (.tmp 22) 37 rfl 80 i0 _ 2 16 Try.underlying37 HI.out HZ0.out HZ1.out HZ2.out rfl (by decide) _ ob k (tagsL T k) rfl (by first | exact HR.out.drew.alloc _ | exact HR.out.alloc _) ⟨wr.heap.size, 0, none⟩ 1 1 [.int .i64 s, .int .i64 f] rfl (by decide) rfl (by intro j u hu; exact news_at _ #[.int .i64 s, .int .i64 f] _ j u hu) (by intro u hu; simp at hu; rcases hu with rfl | rfl <;> rfl) (by unfold maxLen; omega) (by omega) ?_; intro v' ob' w2 hRow2 hG2 hOB2; obtain ⟨a', cap', rfl, hcap1, hcap2, ha'⟩ := hRow2.shape; have HRow2 := Lib.hid hRow2; have HG2 := Lib.hid hG2; have HOB2 := Lib.hid hOB2; have hb2 := grown_other hG2 (HBX.out _) HNE.out; have hb0' := grown_other hG2 (HBY.out _) HNE0.out; have hb1' := grown_other hG2 (HBZ.out _) HNE1.out; have HB2 := Lib.hid hb2; have HB02 := Lib.hid hb0'; have HB12 := Lib.hid hb1'; have c22 := cell_at hb2 1; have f22 := free_at hb2 1; clear hRow2 hG2 hOB2 ha' hb2 hb0' hb1')
      all_goals
        go_wp2_with fail
        go_roundw
        case rel => exact ⟨k + 1, by omega, by go_num, copyR_step HT.out (by first | exact hbel.drew.alloc hbel.size _ | exact hbel.alloc hbel.size _) (by simp; omega) HO.out HRow2.out HG2.out HOB2.out HB2.out HB02.out HB12.out⟩
        case measure => simp [intOf]; omega
    · obtain rfl : k = n := by omega
      have q0 := free_at hb1 0
      have q1 := free_at hb1 1
      have p0 := cell_at hb1 0
      have p1 := cell_at hb1 1
      have hlN : w.heap.size + 2 < wr.heap.size := lt_of_block hb
      obtain ⟨a', cap', rfl, hcap1, hcap2, ha'⟩ := hrow.shape
      have HR := Lib.hid hrow
      have HO := Lib.hid hob
      clear hrow hb hb0 hb1 hob ha'
      go_wp2_with fail
      refine bodyPost_ret (v := .agg #[.int .i64 V, .slice a' k cap']) (by simp [results, Try.results52, go_sem, p0, p1, q0, q1]) rfl ⟨_, rfl, a', cap', ob, rfl, ?_, ?_, ?_⟩
      · refine HR.out.congr fun g e => ?_
        have := HO.out g e
        repeat rw [heap_setCell_ne _ _ _ _ (by simp only; omega)]
      · exact fun g e => by have := HO.out g e; omega
      · exact (hbel.setCell (by simp only; omega) _).setCell (by simp only; omega) _
end Go.Proofs.Ytnainlemnkfpkaa
