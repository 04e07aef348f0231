/-
  Package fifo: packets; size and twin of one.
-/
import Derived.Lib.Small
import Derived.Laws.IdiomStrings
import Derived.Test.YtninhjeiialbjaaFf1
namespace Go.Proofs.Ytninhjeiialbjaa
open Go.RowKit
set_option linter.unusedSimpArgs false
set_option linter.unusedVariables false

theorem cell_congr {A B : World} {b : Nat} (h : B.heap[b]? = A.heap[b]?) (o : Nat) : B.cell? ⟨b, o, none⟩ = A.cell? ⟨b, o, none⟩ := by
  unfold World.cell?
  simp only [h]
theorem ByIn.ne {W : World} {a : Option Addr} {len cap b o : Nat} {X : Nat → Nat} (h : ByIn W a len cap b o X) (p : Addr) (hp : 0 < len → b ≠ p.block) (u : Value) : ByIn (W.setCell p u) a len cap b o X :=
  ⟨h.le, h.max, fun hk => ⟨(h.at_ hk).1, by have := (h.at_ hk).2; simpa using this⟩, fun k hk => (cell_congr (heap_setCell_ne _ _ _ _ (hp (by omega))) _).trans (h.cell k hk), h.bd⟩
def bytesOf (X : Nat → Nat) (n : Nat) : List UInt8 := (List.range n).map fun j => UInt8.ofNat (X j)
theorem bytesOf_len (X : Nat → Nat) (n : Nat) : (bytesOf X n).length = n := by simp [bytesOf]
theorem ByIn.string {W : World} {a : Option Addr} {n c b o : Nat} {X : Nat → Nat} (h : ByIn W a n c b o X) : (convert 55 9 (.slice a n c)).run Try.prog W = .ok (.string ⟨(bytesOf X n).toArray⟩) W := by
  by_cases h0 : n = 0
  · subst h0
    cases a with
    | none =>
      rw [run_convert_bytes_string W 55 9 5 none _ c Try.underlying55 Try.underlying5 Try.underlying9]
      rfl
    | some x => exact run_convert_bytes_back (P := Try.prog) W 55 9 5 x c [] Try.underlying55 Try.underlying5 Try.underlying9 fun j hj => by simp at hj
  · obtain ⟨e0, _⟩ := h.at_ (by omega)
    subst e0
    have hr := run_convert_bytes_back (P := Try.prog) W 55 9 5 ⟨b, o, none⟩ c (bytesOf X n) Try.underlying55 Try.underlying5 Try.underlying9 fun j hj => by
      rw [bytesOf_len] at hj
      rw [addr_add, h.cell j hj]
      have hb := h.bd j
      simp [bytesOf]
      omega
    rw [bytesOf_len] at hr
    exact hr

theorem fsize_any (num t c : Int) (la : Option Addr) (ln lc : Nat) (w : World) (hn : ln ≤ 4611686018427387904) :
    Calls Try.prog 78 #[.agg #[.int .i64 num, .int .i64 t, .int .i64 c, .slice la ln lc]] w fun e w' => e = .returned (.int .i64 (8 + (ln : Int))) ∧ Below w.heap.size w w' := by
  go_enter Try.func78, Try.ntmps78
  go_wp2_with fail
  go_ret
  exact ⟨rfl, (Below.refl _ _).alloc (Nat.le_refl _) _⟩

set_option maxRecDepth 100000 in
set_option maxHeartbeats 8000000 in
theorem ftwin_any (num t c : Int) (a : Option Addr) (n ca b o : Nat) (X : Nat → Nat) (w : World) (h1 : ByIn w a n ca b o X) (hn : n ≤ 5000) :
    Calls Try.prog 79 #[.agg #[.int .i64 num, .int .i64 t, .int .i64 c, .slice a n ca]] w fun e w' => ∃ a' c' b', e = .returned (.agg #[.int .i64 num, .int .i64 t, .int .i64 c, .slice a' n c']) ∧ ByIn w' a' n c' b' 0 X ∧ (0 < n → w.heap.size ≤ b') ∧ Below w.heap.size w w' := by
  have HS := Lib.hid h1
  clear h1
  obtain ⟨N, hN⟩ : ∃ N, N = w.heap.size := ⟨_, rfl⟩
  have HN := Lib.hid hN
  have HB0 : Hid (Below w.heap.size w ((w.alloc (.cells #[.int .i64 num, .int .i64 t, .int .i64 c, .slice a n ca] 57)).alloc (.cells #[.int .i64 0, .int .i64 0, .int .i64 0, .slice none 0 0] 57))) := Lib.hid (((Below.refl _ _).alloc (Nat.le_refl _) _).alloc (by simp) _)
  have HP : Hid (Blk ((w.alloc (.cells #[.int .i64 num, .int .i64 t, .int .i64 c, .slice a n ca] 57)).alloc (.cells #[.int .i64 0, .int .i64 0, .int .i64 0, .slice none 0 0] 57)) N #[.int .i64 num, .int .i64 t, .int .i64 c, .slice a n ca] 57) := Lib.hid (by rw [hN]; exact (blk_new _ _ _).alloc _)
  have HR : Hid (Blk ((w.alloc (.cells #[.int .i64 num, .int .i64 t, .int .i64 c, .slice a n ca] 57)).alloc (.cells #[.int .i64 0, .int .i64 0, .int .i64 0, .slice none 0 0] 57)) (N + 1) #[.int .i64 0, .int .i64 0, .int .i64 0, .slice none 0 0] 57) := Lib.hid (by have := blk_new (w.alloc (.cells #[.int .i64 num, .int .i64 t, .int .i64 c, .slice a n ca] 57)) #[.int .i64 0, .int .i64 0, .int .i64 0, .slice none 0 0] 57; rw [World.size_alloc, ← hN] at this; exact this)
  clear hN
  go_enter Try.func79, Try.ntmps79
  go_wp2_with fail
  go_at_call 108
  refine (clone_any _ _ _ _ _ _ _ (HS.out.below HB0.out) hn).mono ?_
  rintro e W1 ⟨a', c', b', rfl, hby, hfr, hB1⟩
  rw [← HN.out]
  have HB1 := Lib.hid (HB0.out.trans (hB1.mono HB0.out.size))
  have HP1 := Lib.hid (HP.out.step hB1)
  have HR1 := Lib.hid (HR.out.step hB1)
  have HBY := Lib.hid hby
  have HF : Hid (0 < n → N + 2 ≤ b') := Lib.hid (fun hp => by have := hfr hp; simp only [World.size_alloc] at this; rw [← HN.out] at this; omega)
  clear hby hfr hB1 HB0 HP HR
  have c0 : W1.cell? ⟨N, 0, none⟩ = some (.int .i64 num) := cell_at HP1.out 0
  have c1 : W1.cell? ⟨N, 1, none⟩ = some (.int .i64 t) := cell_at HP1.out 1
  have c2 : W1.cell? ⟨N, 2, none⟩ = some (.int .i64 c) := cell_at HP1.out 2
  have c3 : W1.cell? ⟨N, 3, none⟩ = some (.slice a n ca) := cell_at HP1.out 3
  have z3 := free_at HP1.out 3
  have d0 : W1.cell? ⟨N + 1, 0, none⟩ = some (.int .i64 0) := cell_at HR1.out 0
  have d1 : W1.cell? ⟨N + 1, 1, none⟩ = some (.int .i64 0) := cell_at HR1.out 1
  have d2 : W1.cell? ⟨N + 1, 2, none⟩ = some (.int .i64 0) := cell_at HR1.out 2
  have d3 : W1.cell? ⟨N + 1, 3, none⟩ = some (.slice none 0 0) := cell_at HR1.out 3
  have y0 := free_at HR1.out 0
  have y1 := free_at HR1.out 1
  have y2 := free_at HR1.out 2
  have y3 := free_at HR1.out 3
  have hl1 : N < W1.heap.size := HP1.out.lt
  have hl2 : N + 1 < W1.heap.size := HR1.out.lt
  go_wp2_with fail
  obtain ⟨WF, hWF⟩ : ∃ WF, WF = ((((W1.setCell ⟨N, 3, none⟩ (.slice a' n c')).setCell ⟨N + 1, 0, none⟩ (.int .i64 num)).setCell ⟨N + 1, 1, none⟩ (.int .i64 t)).setCell ⟨N + 1, 2, none⟩ (.int .i64 c)).setCell ⟨N + 1, 3, none⟩ (.slice a' n c') := ⟨_, rfl⟩
  have k1 : Blk WF (N + 1) #[.int .i64 num, .int .i64 t, .int .i64 c, .slice a' n c'] 57 := by rw [hWF]; exact ((((HR1.out.ne ⟨N, 3, none⟩ (by simp) _).set 0 (.int .i64 num)).set 1 (.int .i64 t)).set 2 (.int .i64 c)).set 3 (.slice a' n c')
  have hBF : Below w.heap.size w WF := by rw [hWF]; exact ((((HB1.out.setCell (p := ⟨N, 3, none⟩) (by have := HN.out; simp only; omega) _).setCell (p := ⟨N + 1, 0, none⟩) (by have := HN.out; simp only; omega) _).setCell (p := ⟨N + 1, 1, none⟩) (by have := HN.out; simp only; omega) _).setCell (p := ⟨N + 1, 2, none⟩) (by have := HN.out; simp only; omega) _).setCell (p := ⟨N + 1, 3, none⟩) (by have := HN.out; simp only; omega) _
  have hn1 : 0 < n → b' ≠ N := fun hp => by have := HF.out hp; omega
  have hn2 : 0 < n → b' ≠ N + 1 := fun hp => by have := HF.out hp; omega
  have k2 : ByIn WF a' n c' b' 0 X := by rw [hWF]; exact ((((HBY.out.ne ⟨N, 3, none⟩ hn1 _).ne ⟨N + 1, 0, none⟩ hn2 _).ne ⟨N + 1, 1, none⟩ hn2 _).ne ⟨N + 1, 2, none⟩ hn2 _).ne ⟨N + 1, 3, none⟩ hn2 _
  rw [← hWF]
  have r0 : WF.cell? ⟨N + 1, 0, none⟩ = some (.int .i64 num) := cell_at k1 0
  have r1 : WF.cell? ⟨N + 1, 1, none⟩ = some (.int .i64 t) := cell_at k1 1
  have r2 : WF.cell? ⟨N + 1, 2, none⟩ = some (.int .i64 c) := cell_at k1 2
  have r3 : WF.cell? ⟨N + 1, 3, none⟩ = some (.slice a' n c') := cell_at k1 3
  exact bodyPost_ret (v := .agg #[.int .i64 num, .int .i64 t, .int .i64 c, .slice a' n c']) (by simp [results, Try.results79, go_sem, r0, r1, r2, r3]) rfl ⟨a', c', b', rfl, k2, (fun hp => by have := HF.out hp; have := HN.out; omega), hBF⟩
end Go.Proofs.Ytninhjeiialbjaa
