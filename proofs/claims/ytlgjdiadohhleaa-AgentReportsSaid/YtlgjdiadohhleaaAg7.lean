/-
  An agent is told: nothing it asked for.
-/
import Derived.Test.YtlgjdiadohhleaaAg6
import Derived.Laws.StructEq
namespace Go.Proofs.Ytlgjdiadohhleaa
open Go.RowKit
set_option linter.unusedSimpArgs false
set_option linter.unusedVariables false

theorem name_neq (a b c d : Int) (w : World) : (binOp .neq 102 (.agg #[.int .i64 a, .int .i64 b]) (.agg #[.int .i64 c, .int .i64 d])).run Try.prog w = .ok (.bool (!(a == c && b == d))) w := by
  have hf : Try.prog.fieldsOf 102 = #[⟨"epoch", 3, 0, false, "", "weir/agent", 0⟩, ⟨"number", 3, 1, false, "", "weir/agent", 8⟩] := by kernel_rfl
  rw [run_neq_struct, show (10000 : Nat) = 9998 + 1 + 1 from rfl, run_equalIn_struct w _ _ _ _ (by kernel_rfl) (by kernel_rfl), hf]
  have e1 : ∀ a b : Int, (Op.equalIn (9998 + 1) 3 (.int .i64 a) (.int .i64 b)).run Try.prog w = .ok (a == b) w := fun a b => run_equalIn_int w 9998 _ .i64 .i64 a b (by kernel_rfl)
  cases h1 : a == c <;> cases h2 : b == d <;> simp [Op.eqFields, part, e1, go_sem, h1, h2]

/-- the agent's blocks ahead of the answer's, behind a clock's step -/
theorem ahead_ag {w : World} {g : Nat} {s : Ag} {H : Hd} (h : AgAt w g s H) : w.heap.size ∉ g :: H.bl := by
  intro hm
  simp only [List.mem_cons] at hm
  rcases hm with e | e
  · have := h.blk.lt; omega
  · have := (h.held.lt _ e).1; omega

set_option maxRecDepth 100000 in
set_option maxHeartbeats 8000000 in
theorem told_stale (g : Nat) (s : Ag) (H : Hd) (ep nu t a0 a1 a2 a3 a4 : Int) (w : World) (h : AgAt w g s H) (hst : s.un = false ∨ (s.un = true ∧ (s.ae == ep && s.an == nu) = false)) :
    Calls Try.prog 17 #[.pointer (some ⟨g, 0, none⟩), .int .i64 ep, .int .i64 nu, .agg #[.int .i64 a0, .int .i64 a1, .int .i64 a2, .int .i64 a3, .int .i64 a4], .int .i64 t] w fun e w' => e = .returned (.int .i64 150) ∧ AgAt w' g (s.tick t) (H.tick s t) ∧ Fr (g :: H.bl) w w' := by
  obtain ⟨W0, hW0⟩ : ∃ W0, W0 = w.alloc (.cells #[.int .i64 a0, .int .i64 a1, .int .i64 a2, .int .i64 a3, .int .i64 a4] 24) := ⟨_, rfl⟩
  have hB0 : Below w.heap.size w W0 := by rw [hW0]; exact (Below.refl _ _).alloc (Nat.le_refl _) _
  have AT := Lib.hid (at_any g s H t W0 (h.below hB0))
  have HF0 : Hid (Fr (g :: H.bl) w W0) := Lib.hid ((Fr.of_below hB0).mono (by simp))
  have NQ := fun W => name_neq s.ae s.an ep nu W
  obtain ⟨H2, hH2⟩ : ∃ H2, H2 = H.tick s t := ⟨_, rfl⟩
  rw [← hH2] at AT ⊢
  clear h hB0 hH2
  go_enter Try.func17, Try.ntmps17
  go_upto_region 3 with fail
  rw [← hW0]
  clear hW0
  go_wp2_with fail
  go_at_call 49
  refine Calls.mono AT.out ?_
  rintro e W1 ⟨rfl, h1, hf1⟩
  have HA1 := Lib.hid h1
  have HF1 := Lib.hid (HF0.out.trans hf1 (fun x hx => .inl hx))
  have c6 : W1.cell? ⟨g, 6, none⟩ = some (.int .i64 s.ae) := cell_at h1.blk 6
  have c7 : W1.cell? ⟨g, 7, none⟩ = some (.int .i64 s.an) := cell_at h1.blk 7
  rcases hst with hu | ⟨hu, hn⟩
  · have c5 : W1.cell? ⟨g, 5, none⟩ = some (.bool false) := by rw [← hu]; exact cell_at h1.blk 5
    clear h1 hf1 AT HF0
    go_wp2_with fail
    go_ret
    exact ⟨rfl, HA1.out, HF1.out⟩
  · have c5 : W1.cell? ⟨g, 5, none⟩ = some (.bool true) := by rw [← hu]; exact cell_at h1.blk 5
    rw [hn] at NQ
    clear h1 hf1 AT HF0 hn
    go_wp2_with fail
    go_ret
    exact ⟨rfl, HA1.out, HF1.out⟩
end Go.Proofs.Ytlgjdiadohhleaa
