/-
  Each message's twin.
-/
import Derived.Test.YtokhdpokcfkfpaaAih
namespace Go.Proofs.Ytokhdpokcfkfpaa
open Go.RowKit
set_option linter.unusedSimpArgs false
set_option linter.unusedVariables false

set_option maxRecDepth 100000 in
set_option maxHeartbeats 16000000 in
theorem eachM_any (ob : Option Nat) (v : Value) (L : List MsE) (w : World) (h : Row w v ob 39 14 L.length (msL L)) (hn : L.length ≤ 1024) :
    Calls Try.prog 42 #[v, .func (.func 35) #[] #[]] w fun e w' => ∃ ob' v', e = .returned v' ∧ Row w' v' ob' 39 14 L.length (msL L) ∧ Below w.heap.size w w' ∧ (∀ x, ob' = some x → w.heap.size ≤ x) := by
  obtain ⟨i0, hi, hz0, hz1, hz2⟩ := info_parts msInfo
  have HI := Lib.hid hi
  have HZ0 := Lib.hid hz0
  have HZ1 := Lib.hid hz1
  have HZ2 := Lib.hid hz2
  clear hi hz0 hz1 hz2
  have HR := Lib.hid h
  obtain ⟨a, c, rfl, n1, n2, ha⟩ := h.shape
  unfold maxLen at n2
  obtain ⟨n, hnn⟩ : ∃ n, n = L.length := ⟨_, rfl⟩
  rw [← hnn] at n1 hn ⊢
  have HN := Lib.hid hnn
  have HA := Lib.hid ha
  clear h hnn ha
  go_enter Try.func42, Try.ntmps42
  go_wp2_with fail
  go_loopw [5, 10] (fun v5 v10 wr => ∃ (k : Nat) (ob' : Option Nat), k ≤ n ∧ v10 = .int .i64 k ∧ Row wr v5 ob' 39 14 k (msL (L.take k)) ∧ (∀ x, ob' = some x → w.heap.size ≤ x) ∧ Below w.heap.size w wr) (fun _ vi _ => n - (intOf vi).toNat)
  case atStart => exact ⟨0, none, Nat.zero_le _, rfl, Row.nil _ _ _, by simp, Below.refl _ _⟩
  case round =>
    obtain ⟨k, ob', hk, rfl, hR, hO, hB⟩ := hrel
    have HR' := Lib.hid hR
    have HO := Lib.hid hO
    have HB := Lib.hid hB
    clear hR hO hB
    by_cases hlt : k < n
    · obtain ⟨r, er, hq1, hq2⟩ := HR.out.cell (k * 14) (by rw [← HN.out]; omega)
      clear hq1 hq2
      obtain rfl : a = some ⟨r, 0, none⟩ := by rw [HA.out, er]; rfl
      obtain ⟨m, hm⟩ : ∃ m, L[k]? = some m := ⟨L[k]'(by rw [← HN.out]; exact hlt), by simp [← HN.out, hlt]⟩
      have HM := Lib.hid hm
      have ec : ∀ j, j < 14 → wr.cell? ⟨r, k * 14 + j, none⟩ = m.cells[j]? := fun j hj => by
        obtain ⟨r', er', q, _⟩ := HR.out.cell (k * 14 + j) (by rw [← HN.out]; omega)
        rw [er] at er'
        obtain rfl := Option.some.inj er'
        have hrl : r < w.heap.size := by have hh := HR.out; rw [er] at hh; exact hh.lt
        exact (HB.out.cell (p := ⟨r, _, none⟩) hrl).trans (q.trans (msL_at L k j m hm hj))
      have x0 : wr.cell? ⟨r, k * 14, none⟩ = some (.int .i8 m.kd) := ec 0 (by omega)
      have x1 : wr.cell? ⟨r, k * 14 + 1, none⟩ = some (.int .i64 m.f) := ec 1 (by omega)
      have x2 : wr.cell? ⟨r, k * 14 + 2, none⟩ = some (.int .i64 m.t) := ec 2 (by omega)
      have x3 : wr.cell? ⟨r, k * 14 + 3, none⟩ = some (.int .i64 m.te) := ec 3 (by omega)
      have x4 : wr.cell? ⟨r, k * 14 + 4, none⟩ = some (.int .i64 m.ix) := ec 4 (by omega)
      have x5 : wr.cell? ⟨r, k * 14 + 5, none⟩ = some (.int .i64 m.la) := ec 5 (by omega)
      have x6 : wr.cell? ⟨r, k * 14 + 6, none⟩ = some (.int .i64 m.co) := ec 6 (by omega)
      have x7 : wr.cell? ⟨r, k * 14 + 7, none⟩ = some (.bool m.ok) := ec 7 (by omega)
      have x8 : wr.cell? ⟨r, k * 14 + 8, none⟩ = some (.slice none 0 0) := ec 8 (by omega)
      have x9 : wr.cell? ⟨r, k * 14 + 9, none⟩ = some (.int .i64 m.si) := ec 9 (by omega)
      have x10 : wr.cell? ⟨r, k * 14 + 10, none⟩ = some (.int .i64 m.st) := ec 10 (by omega)
      have x11 : wr.cell? ⟨r, k * 14 + 11, none⟩ = some (.int .u8 m.sc) := ec 11 (by omega)
      have x12 : wr.cell? ⟨r, k * 14 + 12, none⟩ = some (.slice none 0 0) := ec 12 (by omega)
      have x13 : wr.cell? ⟨r, k * 14 + 13, none⟩ = some (.slice none 0 0) := ec 13 (by omega)
      clear ec hm er
      have hw2 : (k < n) = True := eq_true hlt
      obtain ⟨N, hN⟩ : ∃ N, N = wr.heap.size := ⟨_, rfl⟩
      obtain ⟨W1, hW1⟩ : ∃ W1, W1 = wr.alloc (.cells #[.int .i8 m.kd, .int .i64 m.f, .int .i64 m.t, .int .i64 m.te, .int .i64 m.ix, .int .i64 m.la, .int .i64 m.co, .bool m.ok, .slice none 0 0, .int .i64 m.si, .int .i64 m.st, .int .u8 m.sc, .slice none 0 0, .slice none 0 0] 39) := ⟨_, rfl⟩
      have hB1 : Below wr.heap.size wr W1 := by rw [hW1]; exact (Below.refl _ _).alloc (Nat.le_refl _) _
      have HK1 : Hid (Blk W1 N #[.int .i8 m.kd, .int .i64 m.f, .int .i64 m.t, .int .i64 m.te, .int .i64 m.ix, .int .i64 m.la, .int .i64 m.co, .bool m.ok, .slice none 0 0, .int .i64 m.si, .int .i64 m.st, .int .u8 m.sc, .slice none 0 0, .slice none 0 0] 39) := Lib.hid (by rw [hW1, hN]; exact blk_new _ _ _)
      have HR1 := Lib.hid (HR'.out.congr (w' := W1) (fun x hx => hB1.block x (by have hr := HR'.out; subst hx; exact hr.lt)))
      have HB1 := Lib.hid (HB.out.trans (hB1.mono HB.out.size))
      have hnew : ∀ x, ob' = some x → x < W1.heap.size := fun x hx => by have hr := HR1.out; subst hx; exact hr.lt
      have HNW := Lib.hid hnew
      have HTW := Lib.hid (twin_any m W1)
      go_upto_region 5 with fail
      rw [← hN]
      change Code.wp _ _ _ _ (wr.alloc (.cells #[.int .i8 m.kd, .int .i64 m.f, .int .i64 m.t, .int .i64 m.te, .int .i64 m.ix, .int .i64 m.la, .int .i64 m.co, .bool m.ok, .slice none 0 0, .int .i64 m.si, .int .i64 m.st, .int .u8 m.sc, .slice none 0 0, .slice none 0 0] 39))
      rw [← hW1]
      clear hN hW1 hB1 hnew x0 x1 x2 x3 x4 x5 x6 x7 x8 x9 x10 x11 x12 x13 HR'
      have e0 : W1.cell? ⟨N, 0, none⟩ = some (.int .i8 m.kd) := cell_at HK1.out 0
      have e1 : W1.cell? ⟨N, 1, none⟩ = some (.int .i64 m.f) := cell_at HK1.out 1
      have e2 : W1.cell? ⟨N, 2, none⟩ = some (.int .i64 m.t) := cell_at HK1.out 2
      have e3 : W1.cell? ⟨N, 3, none⟩ = some (.int .i64 m.te) := cell_at HK1.out 3
      have e4 : W1.cell? ⟨N, 4, none⟩ = some (.int .i64 m.ix) := cell_at HK1.out 4
      have e5 : W1.cell? ⟨N, 5, none⟩ = some (.int .i64 m.la) := cell_at HK1.out 5
      have e6 : W1.cell? ⟨N, 6, none⟩ = some (.int .i64 m.co) := cell_at HK1.out 6
      have e7 : W1.cell? ⟨N, 7, none⟩ = some (.bool m.ok) := cell_at HK1.out 7
      have e8 : W1.cell? ⟨N, 8, none⟩ = some (.slice none 0 0) := cell_at HK1.out 8
      have e9 : W1.cell? ⟨N, 9, none⟩ = some (.int .i64 m.si) := cell_at HK1.out 9
      have e10 : W1.cell? ⟨N, 10, none⟩ = some (.int .i64 m.st) := cell_at HK1.out 10
      have e11 : W1.cell? ⟨N, 11, none⟩ = some (.int .u8 m.sc) := cell_at HK1.out 11
      have e12 : W1.cell? ⟨N, 12, none⟩ = some (.slice none 0 0) := cell_at HK1.out 12
      have e13 : W1.cell? ⟨N, 13, none⟩ = some (.slice none 0 0) := cell_at HK1.out 13
      have hN1 : N < W1.heap.size := HK1.out.lt
      go_wp2_with fail
      go_at_call 35
      refine Calls.mono HTW.out ?_
      rintro e W2 ⟨rfl, hB2⟩
      have HR2 := Lib.hid (HR1.out.congr (w' := W2.alloc (.cells #[.int .i8 m.kd, .int .i64 m.f, .int .i64 m.t, .int .i64 m.te, .int .i64 m.ix, .int .i64 m.la, .int .i64 m.co, .bool m.ok, .slice none 0 0, .int .i64 m.si, .int .i64 m.st, .int .u8 m.sc, .slice none 0 0, .slice none 0 0] 39)) (fun x hx => ((Below.refl W2.heap.size W2).alloc (Nat.le_refl _) (.cells #[.int .i8 m.kd, .int .i64 m.f, .int .i64 m.t, .int .i64 m.te, .int .i64 m.ix, .int .i64 m.la, .int .i64 m.co, .bool m.ok, .slice none 0 0, .int .i64 m.si, .int .i64 m.st, .int .u8 m.sc, .slice none 0 0, .slice none 0 0] 39) |>.block x (Nat.lt_of_lt_of_le (HNW.out x hx) hB2.size)).trans (hB2.block x (HNW.out x hx))))
      have HB2 := Lib.hid (HB1.out.trans (hB2.mono HB1.out.size))
      clear hB2
      go_wp2_with (at_builtin; refine wpList_append_row _ rfl (.tmp 14) (.tmp 18) 28 rfl 39 i0 _ 14 160 Try.underlying28 HI.out HZ0.out HZ1.out HZ2.out rfl (by decide) _ ob' k (msL (L.take k)) rfl HR2.out ⟨W2.heap.size, 0, none⟩ 1 1 [.int .i8 m.kd, .int .i64 m.f, .int .i64 m.t, .int .i64 m.te, .int .i64 m.ix, .int .i64 m.la, .int .i64 m.co, .bool m.ok, .slice none 0 0, .int .i64 m.si, .int .i64 m.st, .int .u8 m.sc, .slice none 0 0, .slice none 0 0] rfl (by decide) rfl (by intro j u hu; exact news_ms W2 #[.int .i8 m.kd, .int .i64 m.f, .int .i64 m.t, .int .i64 m.te, .int .i64 m.ix, .int .i64 m.la, .int .i64 m.co, .bool m.ok, .slice none 0 0, .int .i64 m.si, .int .i64 m.st, .int .u8 m.sc, .slice none 0 0, .slice none 0 0] _ j u hu) (by intro u hu; exact (List.all_eq_true (p := fun u : Value => u.oneCell')).1 rfl u hu) (by unfold maxLen; omega) (by omega) ?_; intro v' ob3 w2 hRow2 hG2 hOB2; have HROW := Lib.hid hRow2; have HO3 : Hid (∀ x, some ob3 = some x → w.heap.size ≤ x) := Lib.hid (by intro x hx; obtain rfl := Option.some.inj hx; rcases hOB2 with e | e; exact HO.out _ e; rw [e]; have := HB2.out.size; simp; omega); have HB3 : Hid (Below w.heap.size w w2) := Lib.hid ((HB2.out.alloc HB2.out.size _).grown hG2 (by have := HB2.out.size; simp; omega) (fun x hx => HO.out x hx)); clear hRow2 hG2 hOB2)
      go_roundw
      case rel => exact ⟨k + 1, some ob3, by omega, by go_num, (by have := HROW.out; rw [List.take_add_one, HM.out, msL_append]; exact this), HO3.out, HB3.out⟩
      case measure => first | (simp [intOf]; done) | (simp [intOf]; omega)
    · obtain rfl : k = n := by omega
      go_wp2_with fail
      go_ret
      exact ⟨ob', _, rfl, (by have := HR'.out; rw [HN.out, List.take_length] at this; rw [HN.out]; exact this), HB.out, HO.out⟩
end Go.Proofs.Ytokhdpokcfkfpaa
