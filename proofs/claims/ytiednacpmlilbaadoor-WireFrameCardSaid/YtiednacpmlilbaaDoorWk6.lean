/-
  Frames: the document's.
-/
import Derived.Test.YtiednacpmlilbaaDoorWk5
namespace Go.Proofs.YtiednacpmlilbaaDoor
open Go.RowKit
set_option linter.unusedSimpArgs false
set_option linter.unusedVariables false

theorem gB_app {a b : List Nat} {k : Nat} (h : k < a.length) : gB (a ++ b) k = gB a k := by
  unfold gB
  rw [List.getElem?_append_left h]
theorem gB_app2 {a b : List Nat} {k : Nat} : gB (a ++ b) (a.length + k) = gB b k := by
  unfold gB
  rw [List.getElem?_append_right (by omega), Nat.add_sub_cancel_left]
theorem f4_d4 {l : List Nat} (ho : okB l) (hl : 4 ≤ l.length) : ∀ k, k < 4 → gB (f4 (d4 l)) k = gB l k := by
  have h0 := ho _ (List.mem_of_getElem? (gB_lt (show 0 < l.length by omega)))
  have h1 := ho _ (List.mem_of_getElem? (gB_lt (show 1 < l.length by omega)))
  have h2 := ho _ (List.mem_of_getElem? (gB_lt (show 2 < l.length by omega)))
  have h3 := ho _ (List.mem_of_getElem? (gB_lt (show 3 < l.length by omega)))
  intro k hk
  match k, hk with
  | 0, _ => show d4 l / 16777216 = gB l 0; unfold d4; omega
  | 1, _ => show d4 l / 65536 % 256 = gB l 1; unfold d4; omega
  | 2, _ => show d4 l / 256 % 256 = gB l 2; unfold d4; omega
  | 3, _ => show d4 l % 256 = gB l 3; unfold d4; omega
theorem f4_inj {n m : Nat} (h : ∀ k, k < 4 → gB (f4 n) k = gB (f4 m) k) : n = m := by
  have h0 : n / 16777216 = m / 16777216 := h 0 (by omega)
  have h1 : n / 65536 % 256 = m / 65536 % 256 := h 1 (by omega)
  have h2 : n / 256 % 256 = m / 256 % 256 := h 2 (by omega)
  have h3 : n % 256 = m % 256 := h 3 (by omega)
  omega
theorem frame_at (l : List Nat) (k : Nat) : (k < 4 → gB (frameL l) k = gB (f4 l.length) k) ∧ (k < 4 → gB (frameL l) (4 + k) = gB (f4 (sumL l)) k) := by
  unfold frameL
  refine ⟨fun h => ?_, fun h => ?_⟩
  · rw [gB_app (by simp [f4]; omega), gB_app (by simp [f4]; omega)]
  · rw [gB_app (by simp [f4]; omega)]
    exact gB_app2 (a := f4 l.length)
theorem drop_at4 (l : List Nat) (k : Nat) : gB (l.drop 4) k = gB l (4 + k) := by
  unfold gB
  rw [List.getElem?_drop]
/-- the sums agree where the heads do -/
theorem head_same {l x : List Nat} (ho : okB l) (hl : 8 ≤ l.length) (hx : x.length = d4 l) : (sumL x = d4 (l.drop 4)) ↔ ∀ k, k < 8 → gB (frameL x) k = gB l k := by
  have hd := f4_d4 (l := l.drop 4) (fun y hy => ho y (List.mem_of_mem_drop hy)) (by rw [List.length_drop]; omega)
  have hd0 := f4_d4 ho (by omega)
  constructor
  · intro h k hk
    by_cases h4 : k < 4
    · rw [(frame_at x k).1 h4, hx]; exact hd0 k h4
    · obtain ⟨j, rfl⟩ : ∃ j, k = 4 + j := ⟨k - 4, by omega⟩
      rw [(frame_at x j).2 (by omega), h, hd j (by omega), drop_at4]
  · intro h
    refine f4_inj fun k hk => ?_
    rw [← (frame_at x k).2 hk, h (4 + k) (by omega), hd k hk, drop_at4]
set_option maxRecDepth 100000 in
set_option maxHeartbeats 8000000 in
theorem rfour_any (n : Nat) (hn : n < 4294967296) (w : World) : Calls Tryd.prog 75 #[.int .u32 (n : Nat)] w fun e w' => ∃ v ob, e = .returned v ∧ BO w.heap.size w' v ob (f4 n) ∧ Below w.heap.size w w' := by
  have c0 : IntKind.u8.wrap ((n : Int) / 16777216) = ((n / 16777216 : Nat) : Int) := by rw [wrap_u8]; unfold u8; omega
  have c1 : IntKind.u8.wrap ((n : Int) / 65536) = ((n / 65536 % 256 : Nat) : Int) := by rw [wrap_u8]; unfold u8; omega
  have c2 : IntKind.u8.wrap ((n : Int) / 256) = ((n / 256 % 256 : Nat) : Int) := by rw [wrap_u8]; unfold u8; omega
  have c3 : IntKind.u8.wrap (n : Int) = ((n % 256 : Nat) : Int) := by rw [wrap_u8]; unfold u8; omega
  have hk : Blk (w.alloc (.cells (byL (f4 n)).toArray 5)) w.heap.size (byL (f4 n)).toArray 5 := blk_new _ _ _
  have HEND := Lib.hid (show BO w.heap.size (w.alloc (.cells (byL (f4 n)).toArray 5)) (.slice (some ⟨w.heap.size, 0, none⟩) 4 4) (some w.heap.size) (f4 n) from
    ⟨Row.mk (cur := (byL (f4 n)).toArray) hk (Nat.le_refl _) (by unfold maxLen; omega) (by simp [byL, f4]) (by simp [byL, f4]), f4_bd hn, fun g e => by obtain rfl := Option.some.inj e; exact Nat.le_refl _⟩)
  have HB := Lib.hid (alloc_b w (.cells (byL (f4 n)).toArray 5))
  obtain ⟨y0, hy0⟩ : ∃ y, y = n / 16777216 := ⟨_, rfl⟩
  obtain ⟨y1, hy1⟩ : ∃ y, y = n / 65536 % 256 := ⟨_, rfl⟩
  obtain ⟨y2, hy2⟩ : ∃ y, y = n / 256 % 256 := ⟨_, rfl⟩
  obtain ⟨y3, hy3⟩ : ∃ y, y = n % 256 := ⟨_, rfl⟩
  have HF : Hid ((byL (f4 n)).toArray = #[.int .u8 (y0 : Nat), .int .u8 (y1 : Nat), .int .u8 (y2 : Nat), .int .u8 (y3 : Nat)]) := Lib.hid (by rw [hy0, hy1, hy2, hy3]; rfl)
  rw [HF.out] at HEND HB
  rw [← hy0] at c0
  rw [← hy1] at c1
  rw [← hy2] at c2
  rw [← hy3] at c3
  clear hk hy0 hy1 hy2 hy3
  go_enter Tryd.func75, Tryd.ntmps75
  go_wp2_with fail
  go_ret
  exact ⟨_, _, rfl, HEND.out, HB.out⟩
set_option maxRecDepth 100000 in
set_option maxHeartbeats 8000000 in
theorem rframe_any (w : World) (v : Value) (l : List Nat) (hv : BV w v l) (hl : l.length ≤ 900000) :
    Calls Tryd.prog 37 #[v] w fun e w' => Below w.heap.size w w' ∧ (65536 < l.length → e = .returned (.tuple #[.slice none 0 0, .int .i64 3])) ∧ (¬ 65536 < l.length → ∃ v', e = .returned (.tuple #[v', .int .i64 0]) ∧ BV w' v' (frameL l)) := by
  have hv0 := hv
  have hok := hv.ok
  obtain ⟨a, n, c, rfl, hn, h1, h2⟩ := hv.sh
  have HN := Lib.hid hn.out
  have hnl : n ≤ 900000 := by rw [hn.out]; exact hl
  by_cases hlong : 65536 < n
  · have d1 : ((65536 : Int) < (n : Int)) = True := eq_true (by omega)
    have d2 : (65536 < n) = True := eq_true hlong
    clear hv hv0 hn
    go_enter Tryd.func37, Tryd.ntmps37
    go_wp2_with fail
    exact bodyPost_ret (v := .tuple #[.slice none 0 0, .int .i64 3]) (by simp [results, Tryd.results37, go_sem]) rfl ⟨Below.refl _ _, fun _ => rfl, fun h => absurd (by rw [← HN.out]; exact hlong) h⟩
  · have d1 : ((65536 : Int) < (n : Int)) = False := eq_false (by omega)
    have d2 : (65536 < n) = False := eq_false hlong
    have cv : IntKind.u32.wrap (n : Int) = (n : Int) := wraps_u32 _ (by omega) (by omega)
    have hs := sumL_lt hok
    have HCS := Lib.hid (fun W (hB : Below w.heap.size w W) => rsumL_any (.slice a n c) l W (hv0.below hB))
    have HFL : Hid (frameL l = f4 n ++ f4 (sumL l) ++ l) := Lib.hid (by unfold frameL; rw [hn.out])
    obtain ⟨s, hse⟩ : ∃ s, s = sumL l := ⟨_, rfl⟩
    rw [← hse] at hs HCS HFL
    have HB1 := Lib.hid (fun W => rfour_any n (by omega) W)
    have HB2 := Lib.hid (fun W => rfour_any s hs W)
    have HV := Lib.hid hv0
    have HSE := Lib.hid (And.intro hse hs)
    clear hv hv0 hn hse hs hok
    go_enter Tryd.func37, Tryd.ntmps37
    go_wp2_with (refine Calls.mono (HB1.out _) ?_; rintro e W1 ⟨v1, ob1, rfl, ho1, hB1⟩; have HW1 := Lib.hid hB1; have HO1 := Lib.hid ho1; have HC1 := Lib.hid (HCS.out W1 hB1); clear hB1 ho1)
    go_wp2_with (refine Calls.mono HC1.out ?_; rintro e W1' ⟨rfl, rfl⟩; clear HC1)
    go_wp2_with (first | (refine Calls.mono (HB2.out _) ?_; rintro e W2 ⟨v2, ob2, rfl, ho2, hB2⟩; obtain ⟨v3, ob3, W3, hr3, ho3, hB3, -⟩ := b_app2 (ty := 23) (HO1.out.step hB2) ho2.v (Nat.le_trans HW1.out.size hB2.size) (by simp [f4]); have hw3 := ((HW1.out.trans (hB2.mono HW1.out.size)).trans hB3); obtain ⟨v4, ob4, W4, hr4, ho4, hB4, -⟩ := b_app2 (ty := 23) ho3 (HV.out.below hw3) hw3.size (by simp [f4]; rw [← HN.out]; omega); have HR3 := Lib.hid hr3; have HR4 := Lib.hid hr4; have HEND := Lib.hid (And.intro (hw3.trans hB4) ho4.v); clear hr3 hr4 ho2 ho3 ho4 hB2 hB3 hB4 hw3) | (at_builtin; first | refine Lib.wpList_append_run _ rfl (.tmp 11) (.tmp 14) 23 23 rfl _ _ rfl rfl _ _ HR3.out ?_ | refine Lib.wpList_append_run _ rfl (.tmp 16) (.tmp 17) 23 23 rfl _ _ rfl rfl _ _ HR4.out ?_))
    try go_wp2_with fail
    exact bodyPost_ret (v := .tuple #[v4, .int .i64 0]) (by simp [results, Tryd.results37, go_sem]) rfl ⟨HEND.out.1, fun h => absurd (by rw [HN.out]; exact h) hlong, fun _ => ⟨v4, rfl, by rw [HFL.out]; exact HEND.out.2⟩⟩
end Go.Proofs.YtiednacpmlilbaaDoor
