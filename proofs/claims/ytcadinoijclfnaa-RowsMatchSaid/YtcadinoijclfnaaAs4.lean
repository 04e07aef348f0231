/-
  The document's copied.
-/
import Derived.Test.YtcadinoijclfnaaAs3
namespace Go.Proofs.Ytcadinoijclfnaa
open Go.RowKit
set_option linter.unusedSimpArgs false
set_option linter.unusedVariables false

theorem wpList_append_bytes {ops : Array Oper} {rest : List Oper} {o : Oper} {a : Act} {Q : Exit → Act → World → Prop} (w : World) (hgd : o.guard = none) (s x : Operand)
    (ho : o.op = .call { callee := .builtin .append, args := #[s, x], argTypes := #[45, 45] }) (hs : a.eval s = .slice none 0 0)
    (xa : Option Addr) (n c b og : Nat) (X : Nat → Nat) (hx : a.eval x = .slice xa n c) (h1 : ByIn w xa n c b og X) (hn : n ≤ 1000000)
    (h : ∀ a' c' b' W', ByIn W' a' n c' b' 0 X → (0 < n → w.heap.size ≤ b') → Below w.heap.size w W' → wpList Try.prog ops Q rest (a.put o.dst (.slice a' n c')) W') : wpList Try.prog ops Q (o :: rest) a w := by
  obtain ⟨i0, hi, hz0, hz1, hz2⟩ := info_parts infoU8'
  have hR0 : Row w (.slice none 0 0) none 5 1 0 (rowV X 0) := Row.nil _ _ _
  by_cases h0 : n = 0
  · subst h0
    refine wpList_append_row_zero _ hgd s x 45 ho 5 i0 1 Try.underlying45 hi _ none 0 _ hs hR0 xa c hx ?_
    exact h none 0 0 w ⟨Nat.le_refl _, by unfold maxLen; omega, fun h => by omega, fun k hk => by omega, h1.bd⟩ (fun h => by omega) (Below.refl _ _)
  · obtain ⟨e0, e1⟩ := h1.at_ (by omega)
    subst e0
    refine wpList_append_row _ hgd s x 45 ho 5 i0 _ 1 1 Try.underlying45 hi hz0 hz1 hz2 rfl (by decide) _ none 0 (rowV X 0) hs hR0 ⟨b, og, none⟩ n c (rowV X n) hx (by omega) (by rw [rowV_len, Nat.mul_one]) ?c1 (rowV_one X n) ?c3 ?c4 ?_
    case c1 =>
      intro j u hu
      have hj : j < n := by have := (List.getElem?_eq_some_iff.1 hu).1; rwa [rowV_len] at this
      rw [rowV_at X n j hj] at hu
      obtain rfl := Option.some.inj hu
      rw [addr_add]
      exact h1.cell j hj
    case c3 => unfold maxLen; omega
    case c4 => omega
    intro v' ob' W3 hrow3 hg3 hob3
    have hB3 : Below w.heap.size w W3 := (Below.refl _ _).grown hg3 (Nat.le_refl _) (fun g e => by cases e)
    have hrow4 : Row W3 v' (some ob') 5 1 n (rowV X n) := by
      first | exact hrow3 | (rw [Nat.zero_add] at hrow3; exact hrow3)
    obtain ⟨a', c', rfl, hby⟩ := row_by hrow4 h1.bd
    refine h a' c' _ W3 hby (fun _ => ?_) hB3
    rcases hob3 with h | h
    · cases h
    · rw [h]; exact Nat.le_refl _

set_option maxRecDepth 100000 in
set_option maxHeartbeats 8000000 in
theorem copied_any (a : Option Addr) (n c g o : Nat) (E : Nat → DE) (w : World) (h1 : DIn w a n c g o E) (hn : n ≤ 5000) (hd : ∀ k, k < n → (E k).dl ≤ 1000000) :
    Calls Try.prog 38 #[.slice a n c] w fun e w' => ∃ a' c' g' F, e = .returned (.slice a' n c') ∧ DIn w' a' n c' g' 0 F ∧ (∀ k, k < n → (E k).sim (F k)) ∧ Below w.heap.size w w' := by
  obtain ⟨i0, hi, hz0, hz1, hz2⟩ := info_parts entZero
  have HI := Lib.hid hi
  have HZ0 := Lib.hid hz0
  have HZ1 := Lib.hid hz1
  have HZ2 := Lib.hid hz2
  have hm := h1.max
  have hl := h1.le
  unfold maxLen at hm
  have HA := Lib.hid h1
  have HD := Lib.hid hd
  obtain ⟨M, hM⟩ : ∃ M, M = w.heap.size := ⟨_, rfl⟩
  have hC0 : CopyD w (.slice none 0 0) none 0 E (fun _ => ⟨0, 0, 0, 0, none, 0, 0, 0, 0, fun _ => 0⟩) := ⟨Row.nil _ _ _, fun j hj => by omega, fun j hj => by omega, fun j hj => by omega⟩
  have HC0 := Lib.hid hC0
  have HM := Lib.hid hM
  clear hi hz0 hz1 hz2 h1 hd hC0 hM
  go_enter Try.func38, Try.ntmps38
  go_wp2_with fail
  go_loopw [3, 4] (fun v i wr => ∃ (k : Nat) (ob : Option Nat) (F : Nat → DE), k ≤ n ∧ i = .int .i64 k ∧ CopyD wr v ob k E F ∧ (∀ g, ob = some g → M ≤ g) ∧ Below M w wr) (fun _ i _ => n - (intOf i).toNat)
  case atStart => exact ⟨0, none, _, Nat.zero_le _, rfl, HC0.out, (fun g e => by cases e), Below.refl _ _⟩
  case round =>
    obtain ⟨k, ob, F, hk, rfl, hC, hG, hB⟩ := hrel
    have HC := Lib.hid hC
    have HG := Lib.hid hG
    have HB := Lib.hid hB
    clear hC hG hB
    by_cases hlt : k < n
    · have hAk := HA.out.below (HM.out ▸ HB.out)
      obtain ⟨e0, e1⟩ := hAk.at_ (by omega)
      have hc := hAk.cell k hlt
      subst e0
      have hldk := hAk.ld k hlt
      have hdk := HD.out k hlt
      obtain ⟨x, hx⟩ : ∃ x, x = E k := ⟨_, rfl⟩
      have hsim0 : ∀ y : DE, y.t = x.t → y.k = x.k → y.s = x.s → y.st = x.st → y.dl = x.dl → y.X = x.X → (E k).sim y := fun y q1 q2 q3 q4 q5 q6 => by
        rw [← hx]; exact ⟨q1.symm, q2.symm, q3.symm, q4.symm, q5.symm, fun j _ => by rw [q6]⟩
      have HSIM := Lib.hid hsim0
      rw [← hx] at hc hldk hdk
      obtain ⟨xt, xk, xs, xst, xda, xdl, xdc, xb, xo, xX⟩ := x
      obtain ⟨N, hN⟩ : ∃ N, N = wr.heap.size := ⟨_, rfl⟩
      obtain ⟨W2, hW2⟩ : ∃ W2, W2 = wr.alloc (.cells #[.int .i64 xt, .int .i8 xk, .int .i64 xs, .int .u8 xst, .slice xda xdl xdc] 47) := ⟨_, rfl⟩
      have hB2 : Below wr.heap.size wr W2 := by rw [hW2]; exact (Below.refl _ _).alloc (Nat.le_refl _) _
      have hP : Blk W2 N #[.int .i64 xt, .int .i8 xk, .int .i64 xs, .int .u8 xst, .slice xda xdl xdc] 47 := by rw [hW2, hN]; exact blk_new _ _ _
      have hs2 : W2.heap.size = N + 1 := by rw [hW2, hN]; simp
      have HBY0 : Hid (ByIn W2 xda xdl xdc xb xo xX) := Lib.hid (ByIn.below hldk hB2)
      simp only at HSIM hdk
      have HDK := Lib.hid hdk
      have c0 : wr.cell? ⟨g, o + k * 5, none⟩ = some (.int .i64 xt) := hc 0 (by omega)
      have c1 : wr.cell? ⟨g, o + k * 5 + 1, none⟩ = some (.int .i8 xk) := hc 1 (by omega)
      have c2 : wr.cell? ⟨g, o + k * 5 + 2, none⟩ = some (.int .i64 xs) := hc 2 (by omega)
      have c3 : wr.cell? ⟨g, o + k * 5 + 3, none⟩ = some (.int .u8 xst) := hc 3 (by omega)
      have c4 : wr.cell? ⟨g, o + k * 5 + 4, none⟩ = some (.slice xda xdl xdc) := hc 4 (by omega)
      have d4 : W2.cell? ⟨g, o + k * 5 + 4, none⟩ = some (.slice xda xdl xdc) := (hB2.cell (p := ⟨g, o + k * 5 + 4, none⟩) e1).trans c4
      have HB2 := Lib.hid hB2
      have HP := Lib.hid hP
      clear hAk hc hldk hdk hB2 hsim0 hx hP
      go_upto_region 7 with fail
      rw [← hN, ← hW2]
      have HN := Lib.hid hN
      clear hN hW2 c0 c1 c2 c3 c4
      go_wp2_with (at_builtin; refine wpList_append_bytes _ rfl (.tmp 17) (.tmp 22) rfl rfl _ _ _ _ _ _ rfl HBY0.out HDK.out ?_)
      intro a3 c3 b3 W3 hby hfr hB3
      have hP3 := HP.out.step (by first | exact hB3 | exact hB3.mono (by omega))
      have HBY := Lib.hid hby
      have HFR := Lib.hid hfr
      have HB3 := Lib.hid hB3
      have HP3 := Lib.hid hP3
      have y4 := free_at hP3 4
      have hl3 : N < W3.heap.size := hP3.lt
      have f4 : W3.cell? ⟨N, 4, none⟩ = some (.slice xda xdl xdc) := cell_at hP3 4
      clear hby hfr hB3 hP3 d4
      go_upto_region 9 with fail
      obtain ⟨W4, hW4⟩ : ∃ W4, W4 = W3.setCell ⟨N, 4, none⟩ (.slice a3 xdl c3) := ⟨_, rfl⟩
      rw [← hW4]
      have hb4 : Blk W4 N #[.int .i64 xt, .int .i8 xk, .int .i64 xs, .int .u8 xst, .slice a3 xdl c3] 47 := by rw [hW4]; exact HP3.out.set 4 (.slice a3 xdl c3)
      have hB4 : Below wr.heap.size wr W4 := by
        rw [hW4]
        exact (HB2.out.trans (HB3.out.mono (by have := HN.out; omega))).setCell (p := ⟨N, 4, none⟩) (by simp only; rw [HN.out]; exact Nat.le_refl _) _
      have hby4 : ByIn W4 a3 xdl c3 b3 0 xX := by rw [hW4]; exact HBY.out.ne ⟨N, 4, none⟩ (fun hp => by have := HFR.out hp; simp only; omega) _
      have q0 : W4.cell? ⟨N, 0, none⟩ = some (.int .i64 xt) := cell_at hb4 0
      have q1 : W4.cell? ⟨N, 1, none⟩ = some (.int .i8 xk) := cell_at hb4 1
      have q2 : W4.cell? ⟨N, 2, none⟩ = some (.int .i64 xs) := cell_at hb4 2
      have q3 : W4.cell? ⟨N, 3, none⟩ = some (.int .u8 xst) := cell_at hb4 3
      have q4 : W4.cell? ⟨N, 4, none⟩ = some (.slice a3 xdl c3) := cell_at hb4 4
      obtain ⟨W5, hW5⟩ : ∃ W5, W5 = W4.alloc (.cells #[.int .i64 xt, .int .i8 xk, .int .i64 xs, .int .u8 xst, .slice a3 xdl c3] 47) := ⟨_, rfl⟩
      have hB5' : Below W4.heap.size W4 W5 := by rw [hW5]; exact (Below.refl _ _).alloc (Nat.le_refl _) _
      have hBr5 : Below wr.heap.size wr W5 := hB4.trans (hB5'.mono hB4.size)
      have HC5 := Lib.hid (HC.out.below hBr5)
      have HBr5 := Lib.hid hBr5
      have HY5 := Lib.hid (hby4.below hB5')
      have hcl5 : W5.heap.size = W4.heap.size + 1 := by rw [hW5]; simp
      have hnew : ∀ j u, [Value.int .i64 xt, .int .i8 xk, .int .i64 xs, .int .u8 xst, .slice a3 xdl c3][j]? = some u → W5.cell? ((⟨W4.heap.size, 0, none⟩ : Addr).add j) = some u := fun j u h => by rw [hW5]; exact fw_cells W4 _ _ j u h
      have HNEW := Lib.hid hnew
      have HW5 := Lib.hid hW5
      clear hb4 hB4 hby4 hW4 hW5 hB5' hBr5 hnew y4 f4
      go_wp2_with (at_builtin; rw [← HW5.out]; refine wpList_append_row _ rfl (.tmp 26) (.tmp 28) 22 rfl 47 i0 _ 5 56 Try.underlying22 HI.out HZ0.out HZ1.out HZ2.out rfl (by decide) _ ob k (dL F k) rfl HC5.out.row ⟨W4.heap.size, 0, none⟩ 1 1 [.int .i64 xt, .int .i8 xk, .int .i64 xs, .int .u8 xst, .slice a3 xdl c3] rfl (by decide) rfl HNEW.out ?c2 ?c3 ?c4 ?_)
      case c2 => intro u hu; exact (List.all_eq_true (p := fun u : Value => u.oneCell')).1 rfl u hu
      case c3 => unfold maxLen; omega
      case c4 => omega
      intro v5 ob5 W6 hrow5 hg5 hob5
      have hBr := HBr5.out
      have hCs := HC5.out.snoc (W := W5) (W' := W6) (v' := v5) (ob' := ob5) (y := ⟨xt, xk, xs, xst, a3, xdl, c3, b3, 0, xX⟩) HY5.out (fun hd e => by
          have h1 := HFR.out hd
          have hr := HC.out.row
          rw [e] at hr
          have h2 := hr.lt
          have := HN.out
          simp only at h1 h2
          omega) (HSIM.out _ rfl rfl rfl rfl rfl rfl) hrow5 (fun b hb hn => hg5.block b hb (fun e => hn e.symm)) hg5.size (by
          rcases hob5 with h | h
          · exact .inl h
          · exact .inr (by omega))
      have hG5 : ∀ g, some ob5 = some g → M ≤ g := fun g e => by
        obtain rfl := Option.some.inj e
        rcases hob5 with h | h
        · exact HG.out _ h
        · have := HB.out.size; have := HM.out; have := hBr.size; omega
      have hMr : M ≤ wr.heap.size := by have := HB.out.size; have := HM.out; omega
      have hB6 : Below M w W6 := (HB.out.trans (hBr.mono hMr)).grown hg5 (by have := hBr.size; omega) (fun g e => HG.out g e)
      have HCS := Lib.hid hCs
      have HG5 := Lib.hid hG5
      have HB6 := Lib.hid hB6
      clear hrow5 hg5 hob5 hBr hCs hG5 hB6
      go_wp2_with fail
      go_roundw
      case rel => exact ⟨k + 1, some ob5, _, by omega, by go_num, HCS.out, HG5.out, HB6.out⟩
      case measure => first | (simp [intOf]; done) | (simp [intOf]; omega)
    · obtain rfl : k = n := by omega
      obtain ⟨a', c', g', rfl, hin⟩ := HC.out.done
      have HIN := Lib.hid hin
      clear hin
      go_wp2_with fail
      go_ret
      exact ⟨a', c', g', F, rfl, HIN.out, HC.out.sim, HM.out ▸ HB.out⟩
end Go.Proofs.Ytcadinoijclfnaa
