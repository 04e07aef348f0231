/-
  rows.twins and the document's copied.
-/
import Derived.Test.YtcadinoijclfnaaAs2
namespace Go.Proofs.Ytcadinoijclfnaa
open Go.RowKit
set_option linter.unusedSimpArgs false
set_option linter.unusedVariables false

theorem make_ents (n : Nat) (h : n ≤ 5000) (w : World) : (Instr.makeSlice 22 (.int .i64 0) (.int .i64 (n : Int))).run Try.prog w = .ok (.slice (some ⟨w.heap.size, 0, none⟩) 0 n) (w.alloc (.cells (madeCells #[.int .i64 0, .int .i8 0, .int .i64 0, .int .u8 0, .slice none 0 0] (n * 5)) 47)) := by
  obtain ⟨i0, hi, hz0, hz1, hz2⟩ := info_parts entZero
  have hr := run_makeSlice (P := Try.prog) w 22 47 i0 _ Try.underlying22 hi hz0 .i64 .i64 0 n (by omega) (by omega) (by rw [hz1]; simp; omega) (by rw [hz2]; omega) (by omega)
  rw [hz1] at hr
  rw [Int.toNat_natCast] at hr
  exact hr

set_option maxRecDepth 100000 in
set_option maxHeartbeats 8000000 in
theorem twins_any (a : Option Addr) (n c g o : Nat) (E : Nat → DE) (w : World) (h1 : DIn w a n c g o E) (hn : n ≤ 5000) (hd : ∀ k, k < n → (E k).dl ≤ 1000000) :
    Calls Try.prog 36 #[.slice a n c] w fun e w' => ∃ a' c' g' F, e = .returned (.slice a' n c') ∧ DIn w' a' n c' g' 0 F ∧ (∀ k, k < n → (E k).sim (F k)) ∧ Below w.heap.size w w' := by
  obtain ⟨i0, hi, hz0, hz1, hz2⟩ := info_parts entZero
  have HI := Lib.hid hi
  have HZ0 := Lib.hid hz0
  have HZ1 := Lib.hid hz1
  have HZ2 := Lib.hid hz2
  have hm := h1.max
  have hl := h1.le
  unfold maxLen at hm
  have HA := Lib.hid h1
  have HD := Lib.hid hd
  have hmk := make_ents n hn
  obtain ⟨M, hM⟩ : ∃ M, M = w.heap.size := ⟨_, rfl⟩
  obtain ⟨W1, hW1⟩ : ∃ W1, W1 = w.alloc (.cells (madeCells #[.int .i64 0, .int .i8 0, .int .i64 0, .int .u8 0, .slice none 0 0] (n * 5)) 47) := ⟨_, rfl⟩
  have hC0 : CopyD W1 (.slice (some ⟨M, 0, none⟩) 0 n) (some M) 0 E (fun _ => ⟨0, 0, 0, 0, none, 0, 0, 0, 0, fun _ => 0⟩) := by
    refine ⟨?_, fun j hj => by omega, fun j hj => by omega, fun j hj => by omega⟩
    rw [hW1, hM]
    exact Row.mk (heap_alloc_new w _) (Nat.zero_le _) (by unfold maxLen; omega) (by simp [size_madeCells]) rfl
  have hB1 : Below w.heap.size w W1 := by rw [hW1]; exact (Below.refl _ _).alloc (Nat.le_refl _) _
  have HC0 := Lib.hid hC0
  have HB1 := Lib.hid hB1
  have HM := Lib.hid hM
  clear hi hz0 hz1 hz2 h1 hd hC0 hB1
  go_enter Try.func36, Try.ntmps36
  go_wp2_with fail
  rw [← hM, ← hW1]
  clear hM hW1 hmk
  go_loopw [3, 11] (fun v i wr => ∃ (k : Nat) (ob : Option Nat) (F : Nat → DE), k ≤ n ∧ i = .int .i64 k ∧ CopyD wr v ob k E F ∧ (∀ g, ob = some g → M ≤ g) ∧ Below M w wr) (fun _ i _ => n - (intOf i).toNat)
  case atStart => exact ⟨0, _, _, Nat.zero_le _, rfl, HC0.out, (fun g e => by obtain rfl := Option.some.inj e; exact Nat.le_refl _), HM.out ▸ HB1.out⟩
  case round =>
    obtain ⟨k, ob, F, hk, rfl, hC, hG, hB⟩ := hrel
    have HC := Lib.hid hC
    have HG := Lib.hid hG
    have HB := Lib.hid hB
    clear hC hG hB
    by_cases hlt : k < n
    · have hAk := HA.out.below (HM.out ▸ HB.out)
      obtain ⟨e0, e1⟩ := hAk.at_ (by omega)
      have hc := hAk.cell k hlt
      subst e0
      have hldk := hAk.ld k hlt
      have hdk := HD.out k hlt
      obtain ⟨W2, hW2⟩ : ∃ W2, W2 = wr.alloc (.cells #[.int .i64 (E k).t, .int .i8 (E k).k, .int .i64 (E k).s, .int .u8 (E k).st, .slice (E k).da (E k).dl (E k).dc] 47) := ⟨_, rfl⟩
      have hB2 : Below wr.heap.size wr W2 := by rw [hW2]; exact (Below.refl _ _).alloc (Nat.le_refl _) _
      have HTW := Lib.hid (etwin_any (E k) W2 (ByIn.below hldk hB2) hdk)
      have HB2 := Lib.hid hB2
      obtain ⟨x, hx⟩ : ∃ x, x = E k := ⟨_, rfl⟩
      have HX := Lib.hid hx
      have hsim0 : ∀ y : DE, y.t = x.t → y.k = x.k → y.s = x.s → y.st = x.st → y.dl = x.dl → y.X = x.X → (E k).sim y := fun y q1 q2 q3 q4 q5 q6 => by
        rw [← hx]; exact ⟨q1.symm, q2.symm, q3.symm, q4.symm, q5.symm, fun j _ => by rw [q6]⟩
      have HSIM := Lib.hid hsim0
      rw [← hx] at hc HTW hW2
      obtain ⟨xt, xk, xs, xst, xda, xdl, xdc, xb, xo, xX⟩ := x
      simp only at HTW hW2 HSIM
      have c0 : wr.cell? ⟨g, o + k * 5, none⟩ = some (.int .i64 xt) := hc 0 (by omega)
      have c1 : wr.cell? ⟨g, o + k * 5 + 1, none⟩ = some (.int .i8 xk) := hc 1 (by omega)
      have c2 : wr.cell? ⟨g, o + k * 5 + 2, none⟩ = some (.int .i64 xs) := hc 2 (by omega)
      have c3 : wr.cell? ⟨g, o + k * 5 + 3, none⟩ = some (.int .u8 xst) := hc 3 (by omega)
      have c4 : wr.cell? ⟨g, o + k * 5 + 4, none⟩ = some (.slice xda xdl xdc) := hc 4 (by omega)
      clear hAk hc hldk hdk hB2 hsim0 hx
      go_wp2_with fail
      rw [← hW2]
      have HW2 := Lib.hid hW2
      clear hW2 c0 c1 c2 c3 c4
      go_at_call 50
      refine HTW.out.mono ?_
      rintro e W3 ⟨a3, c3, b3, rfl, hby, hfr, hB3⟩
      have HBY := Lib.hid hby
      have HFR := Lib.hid hfr
      have HB3 := Lib.hid hB3
      obtain ⟨W4, hW4⟩ : ∃ W4, W4 = W3.alloc (.cells #[.int .i64 xt, .int .i8 xk, .int .i64 xs, .int .u8 xst, .slice a3 xdl c3] 47) := ⟨_, rfl⟩
      have hB4 : Below W3.heap.size W3 W4 := by rw [hW4]; exact (Below.refl _ _).alloc (Nat.le_refl _) _
      have hBr4 : Below wr.heap.size wr W4 := (HB2.out.trans (hB3.mono HB2.out.size)).trans (hB4.mono (by have := HB2.out.size; have := hB3.size; omega))
      have HC4 := Lib.hid (HC.out.below hBr4)
      have HBr4 := Lib.hid hBr4
      have HY4 := Lib.hid (HBY.out.below hB4)
      have hcl4 : W4.heap.size = W3.heap.size + 1 := by rw [hW4]; simp
      have hnew : ∀ j u, [Value.int .i64 xt, .int .i8 xk, .int .i64 xs, .int .u8 xst, .slice a3 xdl c3][j]? = some u → W4.cell? ((⟨W3.heap.size, 0, none⟩ : Addr).add j) = some u := fun j u h => by rw [hW4]; exact fw_cells W3 _ _ j u h
      have HNEW := Lib.hid hnew
      have HW4 := Lib.hid hW4
      clear hby hfr hB3 hW4 hB4 hBr4 hnew
      go_wp2_with (at_builtin; rw [← HW4.out]; refine wpList_append_row _ rfl (.tmp 15) (.tmp 18) 22 rfl 47 i0 _ 5 56 Try.underlying22 HI.out HZ0.out HZ1.out HZ2.out rfl (by decide) _ ob k (dL F k) rfl HC4.out.row ⟨W3.heap.size, 0, none⟩ 1 1 [.int .i64 xt, .int .i8 xk, .int .i64 xs, .int .u8 xst, .slice a3 xdl c3] rfl (by decide) rfl HNEW.out ?c2 ?c3 ?c4 ?_)
      case c2 => intro u hu; exact (List.all_eq_true (p := fun u : Value => u.oneCell')).1 rfl u hu
      case c3 => unfold maxLen; omega
      case c4 => omega
      intro v5 ob5 W5 hrow5 hg5 hob5
      have hBr := HBr4.out
      have hCs := HC4.out.snoc (W := W4) (W' := W5) (v' := v5) (ob' := ob5) (y := ⟨xt, xk, xs, xst, a3, xdl, c3, b3, 0, xX⟩) HY4.out (fun hd e => by
          have h1 := HFR.out hd
          have hr := HC.out.row
          rw [e] at hr
          have h2 := hr.lt
          have := HB2.out.size
          simp only at h1 h2
          omega) (HSIM.out _ rfl rfl rfl rfl rfl rfl) hrow5 (fun b hb hn => hg5.block b hb (fun e => hn e.symm)) hg5.size (by
          rcases hob5 with h | h
          · exact .inl h
          · exact .inr (by omega))
      have hG5 : ∀ g, some ob5 = some g → M ≤ g := fun g e => by
        obtain rfl := Option.some.inj e
        rcases hob5 with h | h
        · exact HG.out _ h
        · have := HB.out.size; have := HM.out; have := hBr.size; omega
      have hMr : M ≤ wr.heap.size := by have := HB.out.size; have := HM.out; omega
      have hB5 : Below M w W5 := (HB.out.trans (hBr.mono hMr)).grown hg5 (by have := hBr.size; omega) (fun g e => HG.out g e)
      have HCS := Lib.hid hCs
      have HG5 := Lib.hid hG5
      have HB5 := Lib.hid hB5
      clear hrow5 hg5 hob5 hBr hCs hG5 hB5
      go_wp2_with fail
      go_roundw
      case rel => exact ⟨k + 1, some ob5, _, by omega, by go_num, HCS.out, HG5.out, HB5.out⟩
      case measure => first | (simp [intOf]; done) | (simp [intOf]; omega)
    · obtain rfl : k = n := by omega
      obtain ⟨a', c', g', rfl, hin⟩ := HC.out.done
      have HIN := Lib.hid hin
      clear hin
      go_wp2_with fail
      go_ret
      exact ⟨a', c', g', F, rfl, HIN.out, HC.out.sim, HM.out ▸ HB.out⟩
end Go.Proofs.Ytcadinoijclfnaa
