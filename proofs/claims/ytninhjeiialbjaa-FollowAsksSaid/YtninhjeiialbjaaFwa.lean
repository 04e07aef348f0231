/-
  weirlaw11.wakes: what the document says of matches, and of an older term.
-/
import Derived.Test.YtninhjeiialbjaaFw9
namespace Go.Proofs.Ytninhjeiialbjaa
open Go.RowKit
set_option linter.unusedSimpArgs false
set_option linter.unusedVariables false

def e2 (t0 t1 : Int) (k : Nat) : Ent := ⟨if k = 0 then t0 else t1, 0, 0, 0, none, 0, 0⟩
def p2 (p q : PgE) (k : Nat) : PgE := if k = 0 then p else q
theorem ents2 {W : World} {b : Nat} {t0 t1 : Int} (h : Blk W b #[.int .i64 t0, .int .i8 0, .int .i64 0, .int .u8 0, .slice none 0 0, .int .i64 t1, .int .i8 0, .int .i64 0, .int .u8 0, .slice none 0 0] 95) (h0 : -9223372036854775808 ≤ t0 ∧ t0 ≤ 9223372036854775807) (h1 : -9223372036854775808 ≤ t1 ∧ t1 ≤ 9223372036854775807) : EntsIn W (some ⟨b, 0, none⟩) 2 2 b 0 (e2 t0 t1) := by
  refine ⟨Nat.le_refl _, by unfold maxLen; omega, by omega, fun _ => ⟨rfl, h.lt⟩, fun k hk => ?_, fun k hk => ?_⟩
  · have h4 : k = 0 ∨ k = 1 := by omega
    rcases h4 with rfl | rfl
    · exact ⟨cell_at h 0, cell_at h 1, cell_at h 2, cell_at h 3, cell_at h 4⟩
    · exact ⟨cell_at h 5, cell_at h 6, cell_at h 7, cell_at h 8, cell_at h 9⟩
  · have h4 : k = 0 ∨ k = 1 := by omega
    unfold maxLen
    rcases h4 with rfl | rfl
    · simp only [e2]; simp; omega
    · simp only [e2]; simp; omega
theorem prog2 {W : World} {b : Nat} {p q : PgE} (h : Blk W b #[.int .i64 p.node, .int .i64 p.match_, .int .i64 p.next_, .int .i64 q.node, .int .i64 q.match_, .int .i64 q.next_] 26) (h0 : p.ok) (h1 : q.ok) : PgIn W (some ⟨b, 0, none⟩) 2 2 b 0 (p2 p q) := by
  refine ⟨Nat.le_refl _, by unfold maxLen; omega, fun _ => ⟨rfl, h.lt⟩, fun k hk => ?_, fun k hk => ?_⟩
  · have h4 : k = 0 ∨ k = 1 := by omega
    rcases h4 with rfl | rfl
    · exact ⟨cell_at h 0, cell_at h 1, cell_at h 2⟩
    · exact ⟨cell_at h 3, cell_at h 4, cell_at h 5⟩
  · have h4 : k = 0 ∨ k = 1 := by omega
    rcases h4 with rfl | rfl
    · exact h0
    · exact h1

theorem mem7 : memF 7 7 = [1, 2, 3] := by decide +kernel
theorem wk_rows (t1 : Int) (h : 1 ≤ t1) (h2 : t1 ≤ 2) : rowsB 0 0 2 (e2 1 t1) = true := by
  have : t1 = 1 ∨ t1 = 2 := by omega
  rcases this with rfl | rfl <;> decide +kernel
theorem wk_m1 : matL (p2 ⟨2, 2, 0⟩ ⟨3, 0, 0⟩) 2 1 (0 + ((2 : Nat) : Int)) (memF 7 7) = [2, 2, 0] := by decide +kernel
theorem wk_m2 : matL (p2 ⟨2, 2, 0⟩ ⟨3, 2, 0⟩) 2 1 (0 + ((2 : Nat) : Int)) (memF 7 7) = [2, 2, 2] := by decide +kernel
theorem wk_s1 : sortedI [2, 2, 0] = [0, 2, 2] := by unfold sortedI; simp [List.mergeSort, List.MergeSort.Internal.splitInTwo, List.merge]
theorem wk_s2 : sortedI [2, 2, 2] = [2, 2, 2] := by unfold sortedI; simp [List.mergeSort, List.MergeSort.Internal.splitInTwo, List.merge]
theorem wk_r1 : reachI [2, 2, 0] = 2 := by unfold reachI fallI; rw [wk_s1]; rfl
theorem wk_r2 : reachI [2, 2, 2] = 2 := by unfold reachI fallI; rw [wk_s2]; rfl
theorem wk_c1 : max (0 : Int) (madeI 0 (e2 1 2) 2 (min (0 + ((2 : Nat) : Int)) (reachI (matL (p2 ⟨2, 2, 0⟩ ⟨3, 0, 0⟩) 2 1 (0 + ((2 : Nat) : Int)) (memF 7 7))) - 0).toNat) = 2 := by
  rw [wk_m1, wk_r1]; decide +kernel
theorem wk_c2 : max (0 : Int) (madeI 0 (e2 1 1) 2 (min (0 + ((2 : Nat) : Int)) (reachI (matL (p2 ⟨2, 2, 0⟩ ⟨3, 2, 0⟩) 2 1 (0 + ((2 : Nat) : Int)) (memF 7 7))) - 0).toNat) = 0 := by
  rw [wk_m2, wk_r2]; decide +kernel
theorem wk_b : (begL 1 (0 + ((2 : Nat) : Int) + 1) (memF 7 7)).length = 2 := by decide +kernel
theorem wk_t : toldE ⟨2, 0, 5⟩ false 1 = ⟨2, 0, 2⟩ := by rfl

/-- rows of two entries, a box of them, and two of progress, made one behind another -/
theorem setup3 {w W2 : World} {N : Nat} (t0 t1 m : Int) (hN : N = w.heap.size) (h0 : 0 ≤ t0 ∧ t0 ≤ 2) (h1 : 0 ≤ t1 ∧ t1 ≤ 2) (hm : 0 ≤ m ∧ m ≤ 2) (hW : W2 = ((w.alloc (.cells #[.int .i64 t0, .int .i8 0, .int .i64 0, .int .u8 0, .slice none 0 0, .int .i64 t1, .int .i8 0, .int .i64 0, .int .u8 0, .slice none 0 0] 95)).alloc (.cells #[.int .i64 0, .int .i64 0, .slice (some ⟨N, 0, none⟩) 2 2] 24)).alloc (.cells #[.int .i64 2, .int .i64 2, .int .i64 0, .int .i64 3, .int .i64 m, .int .i64 0] 26)) :
    EntsIn W2 (some ⟨N, 0, none⟩) 2 2 N 0 (e2 t0 t1) ∧ PgIn W2 (some ⟨N + 1 + 1, 0, none⟩) 2 2 (N + 1 + 1) 0 (p2 ⟨2, 2, 0⟩ ⟨3, m, 0⟩) ∧ Blk W2 (N + 1) #[.int .i64 0, .int .i64 0, .slice (some ⟨N, 0, none⟩) 2 2] 24 ∧ Below N w W2 := by
  have bx : ∀ (A : World) (k : Nat) (hk : A.heap.size = k) (cs : Array Value) (t : TypeId), Blk (A.alloc (.cells cs t)) k cs t := fun A k hk cs t => by rw [← hk]; exact blk_new _ _ _
  have b0 : Blk W2 N #[.int .i64 t0, .int .i8 0, .int .i64 0, .int .u8 0, .slice none 0 0, .int .i64 t1, .int .i8 0, .int .i64 0, .int .u8 0, .slice none 0 0] 95 := by rw [hW]; exact ((bx _ _ hN.symm _ _).alloc _).alloc _
  have b1 : Blk W2 (N + 1) #[.int .i64 0, .int .i64 0, .slice (some ⟨N, 0, none⟩) 2 2] 24 := by rw [hW]; exact (bx _ _ (by simp [hN]) _ _).alloc _
  have b2 : Blk W2 (N + 1 + 1) #[.int .i64 2, .int .i64 2, .int .i64 0, .int .i64 3, .int .i64 m, .int .i64 0] 26 := by rw [hW]; exact bx _ _ (by simp [hN]) _ _
  refine ⟨ents2 b0 (by omega) (by omega), prog2 (p := ⟨2, 2, 0⟩) (q := ⟨3, m, 0⟩) b2 (by unfold PgE.ok; simp) (by unfold PgE.ok; simp; omega), b1, ?_⟩
  rw [hW, hN]
  exact (((Below.refl _ _).alloc (Nat.le_refl _) _).alloc (by simp) _).alloc (by simp; omega) _

theorem commit1 {W : World} {N : Nat} (h1 : EntsIn W (some ⟨N, 0, none⟩) 2 2 N 0 (e2 1 2)) (h2 : PgIn W (some ⟨N + 1 + 1, 0, none⟩) 2 2 (N + 1 + 1) 0 (p2 ⟨2, 2, 0⟩ ⟨3, 0, 0⟩)) :
    Calls Try.prog 26 #[.agg #[.int .i64 0, .int .i64 0, .slice (some ⟨N, 0, none⟩) 2 2], .int .u8 7, .int .i64 1, .int .i64 2, .int .i64 0, .slice (some ⟨N + 1 + 1, 0, none⟩) 2 2] W fun e w' => e = .returned (.tuple #[.int .i64 2, .int .i64 0]) ∧ Below W.heap.size W w' := by
  have hC1 := commit_ok 0 0 _ 2 2 N 0 (e2 1 2) 7 1 2 0 _ 2 2 (N + 1 + 1) 0 _ W h1 h2 (by omega) (by omega) (wk_rows 2 (by omega) (by omega)) ⟨by omega, by omega, by omega, by rw [mem7]; decide⟩
  rw [wk_c1] at hC1
  exact hC1
theorem commit2 {W : World} {N : Nat} (h1 : EntsIn W (some ⟨N, 0, none⟩) 2 2 N 0 (e2 1 1)) (h2 : PgIn W (some ⟨N + 1 + 1, 0, none⟩) 2 2 (N + 1 + 1) 0 (p2 ⟨2, 2, 0⟩ ⟨3, 2, 0⟩)) :
    Calls Try.prog 26 #[.agg #[.int .i64 0, .int .i64 0, .slice (some ⟨N, 0, none⟩) 2 2], .int .u8 7, .int .i64 1, .int .i64 2, .int .i64 0, .slice (some ⟨N + 1 + 1, 0, none⟩) 2 2] W fun e w' => e = .returned (.tuple #[.int .i64 0, .int .i64 0]) ∧ Below W.heap.size W w' := by
  have hC1 := commit_ok 0 0 _ 2 2 N 0 (e2 1 1) 7 1 2 0 _ 2 2 (N + 1 + 1) 0 _ W h1 h2 (by omega) (by omega) (wk_rows 1 (by omega) (by omega)) ⟨by omega, by omega, by omega, by rw [mem7]; decide⟩
  rw [wk_c2] at hC1
  exact hC1
theorem begin1 {W : World} {N : Nat} (h1 : EntsIn W (some ⟨N, 0, none⟩) 2 2 N 0 (e2 1 2)) :
    Calls Try.prog 20 #[.agg #[.int .i64 0, .int .i64 0, .slice (some ⟨N, 0, none⟩) 2 2], .int .u8 7, .int .i64 1] W fun e w' => (∃ a c, e = .returned (.slice a 2 c)) ∧ Below W.heap.size W w' := by
  refine (begin_ok 0 0 _ 2 2 N 0 (e2 1 2) 7 1 W h1 (by omega) (by omega) (wk_rows 2 (by omega) (by omega))).mono ?_
  rintro e w' ⟨v, ob, rfl, hr, _, hB⟩
  rw [wk_b] at hr
  obtain ⟨a, c, rfl, _, _, _⟩ := hr.shape
  exact ⟨⟨a, c, rfl⟩, hB⟩

set_option maxRecDepth 100000 in
set_option maxHeartbeats 8000000 in
theorem wwakes_any (w : World) : Calls Try.prog 16 #[] w fun e w' => e = .returned (.bool true) ∧ Below w.heap.size w w' := by
  have ht := fun W => told_any ⟨2, 0, 5⟩ false 1 W
  rw [wk_t] at ht
  have HT := Lib.hid ht
  clear ht
  go_enter Try.func16, Try.ntmps16
  go_wp2_with fail
  obtain ⟨N, hN⟩ : ∃ N, N = w.heap.size := ⟨_, rfl⟩
  rw [← hN]
  obtain ⟨W2, hW2⟩ : ∃ W2, W2 = ((w.alloc (.cells #[.int .i64 1, .int .i8 0, .int .i64 0, .int .u8 0, .slice none 0 0, .int .i64 2, .int .i8 0, .int .i64 0, .int .u8 0, .slice none 0 0] 95)).alloc (.cells #[.int .i64 0, .int .i64 0, .slice (some ⟨N, 0, none⟩) 2 2] 24)).alloc (.cells #[.int .i64 2, .int .i64 2, .int .i64 0, .int .i64 3, .int .i64 0, .int .i64 0] 26) := ⟨_, rfl⟩
  have h2 := setup3 1 2 0 hN (by omega) (by omega) (by omega) hW2
  rw [← hW2]
  have HN := Lib.hid hN
  clear hN hW2
  obtain ⟨q1, q2, q3, q4⟩ := h2
  have Q1 := Lib.hid q1
  have Q2 := Lib.hid q2
  have Q3 := Lib.hid q3
  have Q4 := Lib.hid q4
  have hs2 : N ≤ W2.heap.size := by have := q3.lt; omega
  clear q1 q2 q3 q4
  go_at_call 26
  refine (commit1 Q1.out Q2.out).mono ?_
  rintro e W3 ⟨rfl, hB3⟩
  have Q5 := Lib.hid (Q4.out.trans (hB3.mono hs2))
  have Q6 := Lib.hid (Q3.out.step hB3)
  have Q7 := Lib.hid (Q1.out.below hB3)
  have hs3 : N ≤ W3.heap.size := by have := hB3.size; omega
  clear hB3
  go_wp2_with fail
  obtain ⟨M, hM⟩ : ∃ M, M = W3.heap.size := ⟨_, rfl⟩
  rw [← hM]
  obtain ⟨W4, hW4⟩ : ∃ W4, W4 = ((W3.alloc (.cells #[.int .i64 1, .int .i8 0, .int .i64 0, .int .u8 0, .slice none 0 0, .int .i64 1, .int .i8 0, .int .i64 0, .int .u8 0, .slice none 0 0] 95)).alloc (.cells #[.int .i64 0, .int .i64 0, .slice (some ⟨M, 0, none⟩) 2 2] 24)).alloc (.cells #[.int .i64 2, .int .i64 2, .int .i64 0, .int .i64 3, .int .i64 2, .int .i64 0] 26) := ⟨_, rfl⟩
  have h4 := setup3 1 1 2 hM (by omega) (by omega) (by omega) hW4
  rw [← hW4]
  have hNM : N ≤ M := by omega
  obtain ⟨q1, q2, _, q4⟩ := h4
  rw [hM] at q4
  have R1 := Lib.hid q1
  have R2 := Lib.hid q2
  have hs4 := q4.size
  have R4 := Lib.hid (Q5.out.trans (q4.mono hs3))
  have R6 := Lib.hid (Q6.out.step q4)
  have R7 := Lib.hid (Q7.out.below q4)
  have hN4 : N ≤ W4.heap.size := by omega
  clear q1 q2 q4 hM hW4
  go_at_call 26
  refine (commit2 R1.out R2.out).mono ?_
  rintro e W5 ⟨rfl, hB5⟩
  have T4 := Lib.hid (R4.out.trans (hB5.mono hN4))
  have T6 := Lib.hid (R6.out.step hB5)
  have T7 := Lib.hid (R7.out.below hB5)
  have hN5 : N ≤ W5.heap.size := by have := hB5.size; omega
  clear hB5
  go_wp2_with fail
  go_at_call 22
  refine (HT.out _).mono ?_
  rintro e W6 ⟨rfl, hB6⟩
  have U4 := Lib.hid (T4.out.trans (hB6.mono hN5))
  have U6 := Lib.hid (T6.out.step hB6)
  have U7 := Lib.hid (T7.out.below hB6)
  have hN6 : N ≤ W6.heap.size := by have := hB6.size; omega
  clear hB6
  obtain ⟨W7, hW7⟩ : ∃ W7, W7 = W6.alloc (.cells #[.int .i64 2, .int .i64 0, .int .i64 2] 26) := ⟨_, rfl⟩
  have hB7 : Below W6.heap.size W6 W7 := by rw [hW7]; exact (Below.refl _ _).alloc (Nat.le_refl _) _
  have hp7 : Blk W7 W6.heap.size #[.int .i64 2, .int .i64 0, .int .i64 2] 26 := by rw [hW7]; exact blk_new _ _ _
  have V4 := Lib.hid (U4.out.trans (hB7.mono hN6))
  have V6 := Lib.hid (U6.out.step hB7)
  have V7 := Lib.hid (U7.out.below hB7)
  have hN7 : N ≤ W7.heap.size := by have := hB7.size; omega
  have x0 : W7.cell? ⟨W6.heap.size, 2, none⟩ = some (.int .i64 2) := cell_at hp7 2
  have x1 := hp7.lt
  have y0 : W7.cell? ⟨N + 1, 0, none⟩ = some (.int .i64 0) := cell_at V6.out 0
  have y1 : W7.cell? ⟨N + 1, 1, none⟩ = some (.int .i64 0) := cell_at V6.out 1
  have y2 : W7.cell? ⟨N + 1, 2, none⟩ = some (.slice (some ⟨N, 0, none⟩) 2 2) := cell_at V6.out 2
  have y3 := V6.out.lt
  clear hB7 hp7
  go_upto_region 6 with fail
  rw [← hW7]
  clear hW7
  go_wp2_with fail
  go_at_call 20
  refine (begin1 V7.out).mono ?_
  rintro e W8 ⟨⟨ba, bc, rfl⟩, hB8⟩
  have X4 := Lib.hid (V4.out.trans (hB8.mono hN7))
  clear hB8
  go_wp2_with fail
  go_ret
  rw [← HN.out]
  exact ⟨rfl, X4.out⟩
end Go.Proofs.Ytninhjeiialbjaa
