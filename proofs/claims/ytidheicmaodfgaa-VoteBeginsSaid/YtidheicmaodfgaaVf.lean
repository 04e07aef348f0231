/-
  weirlaw10's rows of terms, and its asks.
-/
import Derived.Test.YtidheicmaodfgaaVa
import Derived.Test.YtidheicmaodfgaaLib2
namespace Go.Proofs.Ytidheicmaodfgaa
open Go.RowKit

theorem Row.drew {w : World} {v : Value} {ob : Option Nat} {e : TypeId} {size n : Nat} {xs : List Value} (h : Row w v ob e size n xs) : Row w.drew v ob e size n xs := h.congr fun _ _ => rfl

def ents (T : Nat → Int) (n : Nat) : List Value := (List.range n).flatMap fun k => [.int .i64 (T k), .int .i8 0, .int .i64 0, .int .u8 0, .slice none 0 0]
theorem ents_succ (T : Nat → Int) (n : Nat) : ents T (n + 1) = ents T n ++ [.int .i64 (T n), .int .i8 0, .int .i64 0, .int .u8 0, .slice none 0 0] := by simp [ents, List.range_succ, List.flatMap_append]

def RowsP (w : World) (T : Nat → Int) (n : Nat) (e : Ending) (w' : World) : Prop := ∃ v ob, e = .returned (.agg #[.int .i64 0, .int .i64 0, v]) ∧ Row w' v ob 67 5 n (ents T n) ∧ Below w.heap.size w w' ∧ (∀ g, ob = some g → w.heap.size ≤ g)

/-- the box of rows while they grow -/
def RowsR (w : World) (T : Nat → Int) (k : Nat) (wr : World) : Prop := ∃ v ob, wr.heap[w.heap.size + 1]? = some (.cells #[.int .i64 0, .int .i64 0, v] 26 (0, 0)) ∧ Row wr v ob 67 5 k (ents T k) ∧ Below w.heap.size w wr ∧ (∀ g, ob = some g → w.heap.size + 2 ≤ g) ∧
  wr.heap[w.heap.size]? = some (.cells #[.int .i64 0, .int .i64 0, .slice none 0 0] 26 (0, 0))

theorem addr_pl (b o j : Nat) : (⟨b, o, none⟩ : Addr).add j = ⟨b, o + j, none⟩ := by simp [Addr.add]
theorem news_at (W : World) (xs : Array Value) (e : TypeId) (j : Nat) (u : Value) (h : xs.toList[j]? = some u) : (W.alloc (.cells xs e)).cell? ((⟨W.heap.size, 0, none⟩ : Addr).add j) = some u := by
  have h1 : (W.alloc (.cells xs e)).heap[W.heap.size]? = some (.cells xs e (0, 0)) := heap_alloc_new W _
  have h2 := cell_at h1 (0 + j)
  rw [Nat.zero_add, ← Array.getElem?_toList, h] at h2
  have h3 : (⟨W.heap.size, 0, none⟩ : Addr).add j = ⟨W.heap.size, 0 + j, none⟩ := addr_pl _ _ _
  rw [h3, Nat.zero_add]
  exact h2
theorem rowsR_step {w W1 w2 : World} {T : Nat → Int} {k : Nat} {ob : Option Nat} {a' : Option Addr} {cap' ob' : Nat} {v : Value} {t : Int} (ht : t = T k) (h1 : Below w.heap.size w W1) (hs : w.heap.size + 2 ≤ W1.heap.size) (hO : ∀ g, ob = some g → w.heap.size + 2 ≤ g)
    (HRow2 : Row w2 (.slice a' (k + 1) cap') (some ob') 67 5 (k + 1) (ents T k ++ [.int .i64 t, .int .i8 0, .int .i64 0, .int .u8 0, .slice none 0 0])) (HG2 : W1.grownBy w2 ob) (HOB2 : ob = some ob' ∨ ob' = W1.heap.size)
    (hb2 : w2.heap[w.heap.size + 1]? = some (.cells #[.int .i64 0, .int .i64 0, v] 26 (0, 0))) (hb0 : w2.heap[w.heap.size]? = some (.cells #[.int .i64 0, .int .i64 0, .slice none 0 0] 26 (0, 0))) :
    RowsR w T (k + 1) (w2.setCell ⟨w.heap.size + 1, 2, none⟩ (.slice a' (k + 1) cap')) := by
  have hob : w.heap.size + 2 ≤ ob' := by
    rcases HOB2 with h | h
    · exact hO _ h
    · omega
  refine ⟨.slice a' (k + 1) cap', some ob', heap_setCell_same hb2 2 _, ?_, ?_, fun g e => by obtain rfl := Option.some.inj e; exact hob, ?_⟩
  · rw [ents_succ, ← ht]
    exact HRow2.congr fun g e => by obtain rfl := Option.some.inj e; exact heap_setCell_ne _ _ _ _ (by simp only; omega)
  · exact (h1.grown HG2 (by have := h1.size; omega) (fun g e => by have := hO g e; omega)).setCell (by simp) _
  · rw [heap_setCell_ne _ _ _ _ (by simp)]
    exact hb0

theorem infoEnt : (Try.prog.info? 67).map (fun i => (i.zero, i.size, i.bytes)) = some (some (.agg #[.int .i64 0, .int .i8 0, .int .i64 0, .int .u8 0, .slice none 0 0]), 5, 56) := by kernel_rfl

set_option maxRecDepth 100000 in
set_option maxHeartbeats 2000000 in
theorem rows_any (S n : Nat) (T : Nat → Int) (w : World) (hn : n ≤ 300) (hS : S < w.heap.size) (hc : ∀ k, k < n → w.cell? ⟨S, k, none⟩ = some (.int .i64 (T k))) :
    Calls Try.prog 26 #[.slice (some ⟨S, 0, none⟩) n n] w (RowsP w T n) := by
  obtain ⟨i0, hi, hz0, hz1, hz2⟩ := info_parts infoEnt
  have HI := Lib.hid hi
  have HZ0 := Lib.hid hz0
  have HZ1 := Lib.hid hz1
  have HZ2 := Lib.hid hz2
  have HC := Lib.hid hc
  clear hi hz0 hz1 hz2 hc
  go_enter Try.func26, Try.ntmps26
  go_wp2_with fail
  go_loopw [4] (fun i wr => ∃ k : Nat, k ≤ n ∧ i = .int .i64 k ∧ RowsR w T k wr) (fun i _ => n - (intOf i).toNat)
  case atStart =>
    refine ⟨0, Nat.zero_le _, rfl, .slice none 0 0, none, ?_, Row.nil _ _ _, ?_, (fun _ e => by cases e), ?_⟩
    · refine Eq.trans (congrArg (fun k => _root_.GetElem?.getElem? _ k) ?_) (heap_alloc_new _ _)
      simp
    · exact ((Below.refl _ _).alloc (Nat.le_refl _) _).alloc (by simp) _
    · rw [Below.heap_alloc _ _ _ (by simp)]
      exact heap_alloc_new _ _
  case round =>
    obtain ⟨k, hk, rfl, v, ob, hb, hrow, hbel, hob, hb0⟩ := hrel
    by_cases hlt : k < n
    · have hck := (hbel.cell (p := ⟨S, k, none⟩) hS).trans (HC.out k hlt)
      have c2 := cell_at hb 2
      have f2 := free_at hb 2
      have HR := Lib.hid hrow
      have HB := Lib.hid hb
      have HB0 := Lib.hid hb0
      have HO := Lib.hid hob
      clear hrow hb hb0 hob
      obtain ⟨t, ht⟩ : ∃ t, t = T k := ⟨_, rfl⟩
      rw [← ht] at hck
      have HT := Lib.hid ht
      have hmk : k ≤ 9223372036854775807 := by omega
      clear ht
      have hlN : w.heap.size + 1 < wr.heap.size := lt_of_block HB.out
      have hBx : ∀ o, (wr.alloc o).heap[w.heap.size + 1]? = some _ := fun o => (Below.heap_alloc wr o _ hlN).trans HB.out
      have hBy : ∀ o, (wr.alloc o).heap[w.heap.size]? = some _ := fun o => (Below.heap_alloc wr o _ (by omega)).trans HB0.out
      have HBX := Lib.hid hBx
      have HBY := Lib.hid hBy
      have hne : ob ≠ some (w.heap.size + 1) := fun e => by have := HO.out _ e; omega
      have hne0 : ob ≠ some w.heap.size := fun e => by have := HO.out _ e; omega
      have HNE := Lib.hid hne
      have HNE0 := Lib.hid hne0
      clear hBx hBy hne hne0
      go_wp2_with fail
      go_region_law (refine step_append_row rfl (.tmp 13) (.tmp 19) 24 rfl 67 i0 _ 5 56 Try.underlying24 HI.out HZ0.out HZ1.out HZ2.out rfl (by decide) _ ob k (ents T k) rfl (by first | exact HR.out.drew.alloc _ | exact HR.out.alloc _) ⟨wr.heap.size, 0, none⟩ 1 1 [.int .i64 t, .int .i8 0, .int .i64 0, .int .u8 0, .slice none 0 0] rfl (by decide) rfl (by intro j u hu; exact news_at _ #[.int .i64 t, .int .i8 0, .int .i64 0, .int .u8 0, .slice none 0 0] _ j u hu) (by intro u hu; simp at hu; rcases hu with rfl | rfl | rfl | rfl | rfl <;> rfl) (by unfold maxLen; omega) (by omega) ?_; intro v' ob' w2 hRow2 hG2 hOB2; obtain ⟨a', cap', rfl, hcap1, hcap2, ha'⟩ := hRow2.shape; have HRow2 := Lib.hid hRow2; have HG2 := Lib.hid hG2; have HOB2 := Lib.hid hOB2; have hb2 := grown_other hG2 (HBX.out _) HNE.out; have hb0' := grown_other hG2 (HBY.out _) HNE0.out; have HB2 := Lib.hid hb2; have HB02 := Lib.hid hb0'; have c22 := cell_at hb2 2; have f22 := free_at hb2 2; clear hRow2 hG2 hOB2 ha' hb2 hb0')
      all_goals
        go_wp2_with fail
        go_roundw
        case rel => exact ⟨k + 1, by omega, by go_num, rowsR_step HT.out (by first | exact hbel.drew.alloc hbel.size _ | exact hbel.alloc hbel.size _) (by simp; omega) HO.out HRow2.out HG2.out HOB2.out HB2.out HB02.out⟩
        case measure => simp [intOf]; omega
    · obtain rfl : k = n := by omega
      have c0 := cell_at hb 0
      have c1 := cell_at hb 1
      have c2 := cell_at hb 2
      have f0 := free_at hb0 0
      have f1 := free_at hb0 1
      have f2 := free_at hb0 2
      have d0 := cell_at hb0 0
      have d1 := cell_at hb0 1
      have d2 := cell_at hb0 2
      have hlN : w.heap.size < wr.heap.size := lt_of_block hb0
      obtain ⟨a', cap', rfl, hcap1, hcap2, ha'⟩ := hrow.shape
      have HR := Lib.hid hrow
      have HB := Lib.hid hb
      have HB0 := Lib.hid hb0
      have HO := Lib.hid hob
      clear hrow hb hb0 hob ha'
      go_wp2_with fail
      refine bodyPost_ret (v := .agg #[.int .i64 0, .int .i64 0, .slice a' k cap']) (by simp [results, Try.results26, go_sem, d0, d1, d2]) rfl ⟨_, ob, rfl, ?_, ?_, ?_⟩
      · exact HR.out.congr fun g e => by
          have := HO.out g e
          rw [heap_setCell_ne _ _ _ _ (by simp only; omega), heap_setCell_ne _ _ _ _ (by simp only; omega), heap_setCell_ne _ _ _ _ (by simp only; omega)]
      · exact ((hbel.setCell (Nat.le_refl _) _).setCell (Nat.le_refl _) _).setCell (Nat.le_refl _) _
      · exact fun g e => by have := HO.out g e; omega
end Go.Proofs.Ytidheicmaodfgaa
