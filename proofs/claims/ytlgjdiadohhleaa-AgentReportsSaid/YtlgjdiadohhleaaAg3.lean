/-
  An agent's clock goes on: keep, drop, at; New.
-/
import Derived.Test.YtlgjdiadohhleaaAg2
namespace Go.Proofs.Ytlgjdiadohhleaa
open Go.RowKit
set_option linter.unusedSimpArgs false
set_option linter.unusedVariables false

theorem Hd.slice (H : Hd) : ∃ a n c, H.val = .slice a n c := by cases H <;> exact ⟨_, _, _, rfl⟩
theorem Ag.cells_set (s : Ag) (v u : Value) : (s.cells v).setIfInBounds 11 u = s.cells u := rfl

set_option maxRecDepth 100000 in
set_option maxHeartbeats 4000000 in
theorem keep_any (k : FuncId) (cs : Array Value) (d : Lz → Bool) (g : Nat) (s : Ag) (H : Hd) (w : World) (h : AgAt w g s H) (hk : EntK k) (CS : StayC k cs d w) :
    Calls Try.prog 55 #[.pointer (some ⟨g, 0, none⟩), .func (.func k) #[] cs] w fun e w' => e = .returned (.tuple #[]) ∧ AgAt w' g s (H.keep d) ∧ Fr (g :: H.bl) w w' := by
  obtain ⟨W1, hW1⟩ : ∃ W1, W1 = w.alloc (.cells #[.func (.func k) #[] cs] 112) := ⟨_, rfl⟩
  obtain ⟨N, hN⟩ : ∃ N, N = w.heap.size := ⟨_, rfl⟩
  have hB1 : Below w.heap.size w W1 := by rw [hW1]; exact (Below.refl _ _).alloc (Nat.le_refl _) _
  have hq : Blk W1 N #[.func (.func k) #[] cs] 112 := by rw [hW1, hN]; exact blk_new _ _ _
  have h1 := h.below hB1
  have c11 : W1.cell? ⟨g, 11, none⟩ = some H.val := cell_at h1.blk 11
  have HD := Lib.hid (deleteF_any k cs d N g H W1 h1.held hq hk (CS.below hB1))
  have HF1 : Hid (Fr (g :: H.bl) w W1) := Lib.hid ((Fr.of_below hB1).mono (by simp))
  have HA1 := Lib.hid h1
  have HGN : Hid (g < w.heap.size) := Lib.hid h.blk.lt
  clear h hk CS hq h1 hB1
  obtain ⟨hv, hhv⟩ : ∃ hv, hv = H.val := ⟨_, rfl⟩
  obtain ⟨va, vn, vc, hhv'⟩ := Hd.slice (H.keep d)
  rw [← hhv] at c11 HD
  rw [hhv'] at HD
  have HV := Lib.hid hhv
  have HV' := Lib.hid hhv'
  clear hhv hhv'
  go_enter Try.func55, Try.ntmps55
  go_upto_region 1 with fail
  rw [← hN, ← hW1]
  clear hN hW1
  go_wp2_with fail
  go_at_call 93
  refine Calls.mono HD.out ?_
  rintro e W2 ⟨rfl, h2, hf2⟩
  have hgb : g ∉ H.bl := by
    have := HA1.out.held
    cases H with
    | gone a c => simp [Hd.bl]
    | one b c x => simp [Hd.bl]; exact fun e => this.2 e.symm
  have hb2 : Blk W2 g (s.cells H.val) 107 := (hf2.block g HA1.out.blk.lt hgb).trans HA1.out.blk
  have o11 : W2.cell? ⟨g, 11, none⟩ = some H.val := cell_at hb2 11
  have z11 := free_at hb2 11
  have HF2 := Lib.hid (HF1.out.trans hf2 (fun x hx => .inl (by simp [hx])))
  have HB2 := Lib.hid hb2
  have H2 := Lib.hid h2
  clear hb2 h2 hf2 HD hgb
  go_wp2_with fail
  go_end0
  refine ⟨rfl, ⟨?_, ?_⟩, HF2.out.setCell _ (.inl (by simp)) _⟩
  · have := HB2.out.set 11 (.slice va vn vc)
    rw [Ag.cells_set] at this
    rw [HV'.out]
    exact this
  · have hh := H2.out
    refine hh.congr fun b hb => heap_setCell_ne _ _ _ _ (fun e => ?_)
    cases H with
    | gone a c => simp [Hd.keep, Hd.bl] at hb
    | one b' c x =>
      simp only [Hd.keep] at hb hh
      split at hb
      · next hd => rw [if_pos hd] at hh; simp [Hd.bl] at hb; exact hh.2 (by rw [← hb]; exact e)
      · simp [Hd.bl] at hb

theorem keep_bl (H : Hd) (d : Lz → Bool) : ∀ x ∈ (H.keep d).bl, x ∈ H.bl := by
  intro x hx
  cases H with
  | gone a c => exact hx
  | one b c y =>
    simp only [Hd.keep] at hx
    split at hx
    · exact hx
    · simp [Hd.bl] at hx
theorem ent_drop : EntK 50 := fun _ _ => by kernel_rfl

/-- what a clock's step leaves -/
def Ag.tick (s : Ag) (t : Int) : Ag := { s with now := max s.now t }
def Hd.tick (H : Hd) (s : Ag) (t : Int) : Hd := H.keep fun x => decide (max s.now t < x.un)

set_option maxRecDepth 100000 in
set_option maxHeartbeats 4000000 in
theorem drop_any (g : Nat) (s : Ag) (H : Hd) (t : Int) (w : World) (h : AgAt w g s H) :
    Calls Try.prog 50 #[.pointer (some ⟨g, 0, none⟩), .int .i64 t] w fun e w' => e = .returned (.tuple #[]) ∧ AgAt w' g (s.tick t) (H.tick s t) ∧ Fr (g :: H.bl) w w' := by
  obtain ⟨W1, hW1⟩ : ∃ W1, W1 = w.alloc (.cells #[.pointer (some ⟨g, 0, none⟩)] 27) := ⟨_, rfl⟩
  obtain ⟨N, hN⟩ : ∃ N, N = w.heap.size := ⟨_, rfl⟩
  have hB1 : Below w.heap.size w W1 := by rw [hW1]; exact (Below.refl _ _).alloc (Nat.le_refl _) _
  have hp : Blk W1 N #[.pointer (some ⟨g, 0, none⟩)] 27 := by rw [hW1, hN]; exact blk_new _ _ _
  have h1 := h.below hB1
  have hgN : g ≠ N := by have := h.blk.lt; omega
  obtain ⟨M, hM⟩ : ∃ M, M = max s.now t := ⟨_, rfl⟩
  have e1 : max s.now t = M := hM.symm
  have e2 : (if s.now < t then t else s.now) = M := by rw [hM]; split <;> omega
  have c0 : W1.cell? ⟨N, 0, none⟩ = some (.pointer (some ⟨g, 0, none⟩)) := cell_at hp 0
  have c3 : W1.cell? ⟨g, 3, none⟩ = some (.int .i64 s.now) := cell_at h1.blk 3
  have z3 := free_at h1.blk 3
  have HF1 : Hid (Fr (g :: H.bl) w W1) := Lib.hid ((Fr.of_below hB1).mono (by simp))
  have HA1 := Lib.hid h1
  have HP := Lib.hid hp
  have HM := Lib.hid hM
  clear h hp h1 hB1 hM
  go_enter Try.func50, Try.ntmps50
  go_upto_region 1 with fail
  rw [← hN, ← hW1]
  clear hN hW1
  go_region
  all_goals
    obtain ⟨W2, hW2⟩ : ∃ W2, W2 = (W1.setCell ⟨g, 3, none⟩ (.int .i64 M)).drew := ⟨_, rfl⟩
    rw [← hW2]
    have hb2 : Blk W2 g ((s.tick t).cells H.val) 107 := by
      have := HA1.out.blk.set 3 (.int .i64 M)
      rw [hW2, HM.out]
      rw [HM.out] at this
      exact this
    have hh2 : H.at_ W2 g := by
      refine HA1.out.held.congr fun b hb => ?_
      rw [hW2]
      refine heap_setCell_ne _ _ _ _ (fun e => ?_)
      have hh := HA1.out.held
      cases H with
      | gone a c => simp [Hd.bl] at hb
      | one b' c x => simp [Hd.bl] at hb; exact hh.2 (by rw [← hb]; exact e)
    have hp2 : Blk W2 N #[.pointer (some ⟨g, 0, none⟩)] 27 := by rw [hW2]; exact HP.out.ne ⟨g, 3, none⟩ (fun e => hgN e.symm) _
    have HF2 : Hid (Fr (g :: H.bl) w W2) := Lib.hid (by rw [hW2]; exact (HF1.out.setCell ⟨g, 3, none⟩ (.inl (by simp)) _).drew)
    have d0 : W2.cell? ⟨N, 0, none⟩ = some (.pointer (some ⟨g, 0, none⟩)) := cell_at hp2 0
    have KA := Lib.hid (keep_any 88 #[.pointer (some ⟨N, 0, none⟩)] (fun x => decide (M < x.un)) g (s.tick t) H W2 ⟨hb2, hh2⟩ ent_drop1 (fun x W hB => by
      have := drop1_any x N g (s.tick t) H.val W (hp2.step hB) (hb2.step hB)
      rw [show (s.tick t).now = M from HM.out.symm] at this
      exact this))
    clear hb2 hh2 hp2 HP HA1 hW2 HF1 c0 c3 z3
    go_wp2_with fail
    go_at_call 55
    refine Calls.mono KA.out ?_
    rintro e W3 ⟨rfl, h3, hf3⟩
    have hfr := HF2.out.trans hf3 (fun x hx => .inl hx)
    go_wp2_with fail
    go_end0
    refine ⟨rfl, ?_, hfr⟩
    unfold Hd.tick
    rw [← HM.out]
    exact h3

set_option maxRecDepth 100000 in
set_option maxHeartbeats 4000000 in
theorem at_any (g : Nat) (s : Ag) (H : Hd) (t : Int) (w : World) (h : AgAt w g s H) :
    Calls Try.prog 49 #[.int .i64 t, .func (.func 50) #[.pointer (some ⟨g, 0, none⟩)] #[]] w fun e w' => e = .returned (.tuple #[]) ∧ AgAt w' g (s.tick t) (H.tick s t) ∧ Fr (g :: H.bl) w w' := by
  have D := Lib.hid (drop_any g s H t w h)
  clear h
  go_enter Try.func49, Try.ntmps49
  go_wp2_with (go_at_call 50; refine Calls.mono D.out ?_; rintro e w' ⟨rfl, h3, hf3⟩)
  go_end0
  exact ⟨rfl, h3, hf3⟩

set_option maxRecDepth 100000 in
set_option maxHeartbeats 4000000 in
theorem agNew_ok (sh ep ti : Int) (h1 : 1 ≤ sh ∧ sh ≤ 8) (h2 : 1 ≤ ep) (h3 : 1 ≤ ti ∧ ti ≤ 1073741824) (w : World) :
    Calls Try.prog 24 #[.int .i64 sh, .int .i64 ep, .int .i64 ti] w fun e w' => e = .returned (.tuple #[.pointer (some ⟨w.heap.size, 0, none⟩), .int .i64 0]) ∧ AgAt w' w.heap.size ⟨sh, ep, 1000 * ti, 0, 0, false, 0, 0, 0, 0, 0⟩ (.gone none 0) ∧ w' = w.alloc (.cells (Ag.cells ⟨sh, ep, 1000 * ti, 0, 0, false, 0, 0, 0, 0, 0⟩ (.slice none 0 0)) 107) := by
  obtain ⟨a1, a2⟩ := h1
  obtain ⟨b1, b2⟩ := h3
  have q2 : IntKind.i64.wrap (1000 * ti) = 1000 * ti := IntWalk.i64_in _ (by omega)
  go_enter Try.func24, Try.ntmps24
  go_wp2_with fail
  go_ret2
  exact ⟨rfl, ⟨blk_new _ _ _, by unfold Hd.at_ maxLen; omega⟩, rfl⟩
end Go.Proofs.Ytlgjdiadohhleaa
