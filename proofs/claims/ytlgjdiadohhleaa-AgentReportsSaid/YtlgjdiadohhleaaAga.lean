/-
  An agent spends.
-/
import Derived.Test.YtlgjdiadohhleaaAg9
namespace Go.Proofs.Ytlgjdiadohhleaa
open Go.RowKit
set_option linter.unusedSimpArgs false
set_option linter.unusedVariables false

theorem OneL.set_le {W : World} {b c : Nat} {x : Lz} (h : OneL W b c x) (v : Int) : OneL (W.setCell ⟨b, 2, none⟩ (.int .i64 v)) b c { x with le := v } :=
  h.set 2 _ (fun j hj => by
    match j, hj with
    | 0, _ => rfl
    | 1, _ => rfl
    | 2, _ => rfl
    | 3, _ => rfl
    | 4, _ => rfl
    | 5, _ => rfl) (by omega)
theorem OneL.set_sp {W : World} {b c : Nat} {x : Lz} (h : OneL W b c x) (v : Int) : OneL (W.setCell ⟨b, 4, none⟩ (.int .i64 v)) b c { x with sp := v } :=
  h.set 4 _ (fun j hj => by
    match j, hj with
    | 0, _ => rfl
    | 1, _ => rfl
    | 2, _ => rfl
    | 3, _ => rfl
    | 4, _ => rfl
    | 5, _ => rfl) (by omega)
theorem OneL.set_re {W : World} {b c : Nat} {x : Lz} (h : OneL W b c x) (v : Int) : OneL (W.setCell ⟨b, 5, none⟩ (.int .i64 v)) b c { x with re := v } :=
  h.set 5 _ (fun j hj => by
    match j, hj with
    | 0, _ => rfl
    | 1, _ => rfl
    | 2, _ => rfl
    | 3, _ => rfl
    | 4, _ => rfl
    | 5, _ => rfl) (by omega)
theorem AgAt.lease {w W : World} {g b c : Nat} {s : Ag} {x y : Lz} (h : AgAt w g s (.one b c x)) (hf : Fr [b] w W) (hy : OneL W b c y) : AgAt W g s (.one b c y) :=
  ⟨(hf.block g h.blk.lt (by simp; exact fun e => h.held.2 e.symm)).trans h.blk, hy, h.held.2⟩

set_option maxRecDepth 100000 in
set_option maxHeartbeats 4000000 in
theorem spend_bad (g : Nat) (s : Ag) (H : Hd) (te n t : Int) (w : World) (h : AgAt w g s H) (hok : H.ok) (hn : n < 0 ∨ (0 ≤ n ∧ (H.tick s t).tok te < n)) :
    Calls Try.prog 18 #[.pointer (some ⟨g, 0, none⟩), .int .i64 te, .int .i64 n, .int .i64 t] w fun e w' => e = .returned (.int .i64 (if n < 0 then 2 else 170)) ∧ AgAt w' g (s.tick t) (H.tick s t) ∧ Fr (g :: H.bl) w w' := by
  have TK := Lib.hid (tokens_any g s H te t w h hok)
  obtain ⟨T, hT⟩ : ∃ T, T = (H.tick s t).tok te := ⟨_, rfl⟩
  rw [← hT] at TK hn
  clear h hok hT
  rcases hn with hn | ⟨hn, hn2⟩
  · rw [if_pos hn]
    go_enter Try.func18, Try.ntmps18
    go_wp2_with (go_at_call 19; refine Calls.mono TK.out ?_; rintro e w' ⟨rfl, h1, hf1⟩)
    go_ret
    exact ⟨rfl, h1, hf1⟩
  · rw [if_neg (by omega)]
    go_enter Try.func18, Try.ntmps18
    go_wp2_with (go_at_call 19; refine Calls.mono TK.out ?_; rintro e w' ⟨rfl, h1, hf1⟩)
    go_ret
    exact ⟨rfl, h1, hf1⟩

def Lz.spend (x : Lz) (n : Int) : Lz := { x with le := x.le - n, sp := x.sp + n }
def Hd.spend (H : Hd) (n : Int) : Hd := match H with
  | .gone a c => .gone a c
  | .one b c x => .one b c (x.spend n)
def Hd.of_ (H : Hd) (te : Int) : Prop := match H with
  | .gone _ _ => True
  | .one _ _ x => x.te = te

set_option maxRecDepth 100000 in
set_option maxHeartbeats 8000000 in
theorem spend_ok (g : Nat) (s : Ag) (H : Hd) (te n t : Int) (w : World) (h : AgAt w g s H) (hok : H.ok) (hn : 0 ≤ n) (hn2 : n ≤ (H.tick s t).tok te) (hte : (H.tick s t).of_ te) :
    Calls Try.prog 18 #[.pointer (some ⟨g, 0, none⟩), .int .i64 te, .int .i64 n, .int .i64 t] w fun e w' => e = .returned (.int .i64 0) ∧ AgAt w' g (s.tick t) ((H.tick s t).spend n) ∧ Fr (g :: H.bl) w w' := by
  have TK := Lib.hid (tokens_any g s H te t w h hok)
  have hok2 := hok.tick s t
  have HBL := Lib.hid (keep_bl H fun x => decide (max s.now t < x.un))
  change Hid (∀ x ∈ (H.tick s t).bl, x ∈ H.bl) at HBL
  obtain ⟨H2, hH2⟩ : ∃ H2, H2 = H.tick s t := ⟨_, rfl⟩
  rw [← hH2] at TK hok2 HBL hn2 hte ⊢
  obtain ⟨T, hT⟩ : ∃ T, T = H2.tok te := ⟨_, rfl⟩
  rw [← hT] at TK hn2
  have HT := Lib.hid hT
  clear h hok hH2 hT
  go_enter Try.func18, Try.ntmps18
  go_wp2_with fail
  go_at_call 19
  refine Calls.mono TK.out ?_
  rintro e W1 ⟨rfl, h1, hf1⟩
  have HA1 := Lib.hid h1
  have HF1 := Lib.hid hf1
  have SO := Lib.hid (soonest_any g (s.tick t) H2 W1 h1)
  clear h1 hf1 TK
  cases H2 with
  | gone a c =>
    go_wp2_with fail
    go_at_call 53
    refine Calls.mono SO.out ?_
    rintro e W2 ⟨hp, hB2⟩
    obtain rfl : e = .returned (.slice none 0 0) := hp
    have HB2 := Lib.hid hB2
    clear hB2
    go_wp2_with fail
    refine wp_loop_rounds 1 ?_
    rw [rounds_succ]
    go_wp2_with fail
    go_ret
    exact ⟨rfl, HA1.out.below HB2.out, HF1.out.trans (Fr.of_below HB2.out) (fun x hx => by simp at hx)⟩
  | one b c x =>
    go_wp2_with fail
    go_at_call 53
    refine Calls.mono SO.out ?_
    rintro e W2 ⟨hp, hB2⟩
    obtain ⟨r, c', rfl, r1, r2, r3, r4⟩ := hp
    have hA2 := HA1.out.below hB2
    have HA2 := Lib.hid hA2
    have HF2 := Lib.hid (HF1.out.trans (Fr.of_below hB2) (fun x hx => by simp at hx))
    obtain ⟨h2, h3⟩ := hA2.held
    have hm := h2.max
    have hx : T = x.le := HT.out.trans (if_pos hte)
    subst hx
    unfold maxLen at hm r2
    obtain ⟨k1, k2, k3, _⟩ := hok2
    have c11 : W2.cell? ⟨g, 11, none⟩ = some (.slice (some ⟨b, 0, none⟩) 1 c) := cell_at hA2.blk 11
    have d1 : W2.cell? ⟨b, 1, none⟩ = some (.int .i64 te) := by rw [← hte]; exact h2.cell 1 (by omega)
    have d2 : W2.cell? ⟨b, 2, none⟩ = some (.int .i64 x.le) := h2.cell 2 (by omega)
    have d4 : W2.cell? ⟨b, 4, none⟩ = some (.int .i64 x.sp) := h2.cell 4 (by omega)
    have z2 := h2.free 2
    have z4 := h2.free 4
    have q1 : IntKind.i64.wrap (x.le - n) = x.le - n := IntWalk.i64_in _ (by omega)
    have q2 : IntKind.i64.wrap (x.sp + n) = x.sp + n := IntWalk.i64_in _ (by omega)
    have q3 : min n x.le = n := by omega
    have HL := Lib.hid h2
    have HOK : Hid (b ∈ H.bl) := Lib.hid (HBL.out b (by simp [Hd.bl]))
    clear hA2 h2 h3 hB2 SO HA1 HF1 hte k3
    go_wp2_with fail
    refine wp_loop_rounds 2 ?_
    rw [rounds_succ]
    go_wp2_with fail
    rw [rounds_succ]
    go_wp2_with fail
    go_ret
    obtain ⟨W4, hW4⟩ : ∃ W4, W4 = (W2.setCell ⟨b, 2, none⟩ (.int .i64 (x.le - n))).setCell ⟨b, 4, none⟩ (.int .i64 (x.sp + n)) := ⟨_, rfl⟩
    have hf4 : Fr [b] W2 W4 := by rw [hW4]; exact ((Fr.refl [b] W2).setCell ⟨b, 2, none⟩ (.inl (by simp)) _).setCell ⟨b, 4, none⟩ (.inl (by simp)) _
    have hL4 : OneL W4 b c (x.spend n) := by rw [hW4]; exact (HL.out.set_le (x.le - n)).set_sp (x.sp + n)
    rw [← hW4]
    exact ⟨rfl, HA2.out.lease hf4 hL4, HF2.out.trans hf4 (fun y hy => by simp at hy; subst hy; exact .inl (by simp [HOK.out]))⟩
end Go.Proofs.Ytlgjdiadohhleaa
