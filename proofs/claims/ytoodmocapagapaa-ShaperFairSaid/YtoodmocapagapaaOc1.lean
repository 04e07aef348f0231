/-
  Texts of this claim, put together: Sh0, Sh1, Sh2, Sh3, Sh4, Sh5, Sh6, Sh7, Sh8, Sh9.
-/
import Derived.Test.YtoodmocapagapaaOa1
import Derived.Test.YtoodmocapagapaaOa2
import Derived.Test.YtoodmocapagapaaOb1
import Derived.Test.YtoodmocapagapaaOb2
import Derived.Deep.DeepFit
import Derived.BigQuiet
import Derived.WalkMore
namespace Go.Proofs.Ytoodmocapagapaa
open Go.RowKit
set_option linter.unusedSimpArgs false
set_option linter.unusedVariables false

set_option maxRecDepth 100000 in
set_option maxHeartbeats 4000000 in
theorem pclone_t (a : Option Addr) (n c b o : Nat) (X : Nat → Nat) (w : World) (h1 : ByIn w a n c b o X) (hn5 : n ≤ 5000) :
    Calls Try.prog 39 #[.slice a n c] w fun e w' => ∃ a' c' b', e = .returned (.slice a' n c') ∧ ByIn w' a' n c' b' 0 X ∧ (0 < n → w.heap.size ≤ b' ∧ ∃ cs, Blk w' b' cs 5) ∧ Below w.heap.size w w' := by
  obtain ⟨i0, hi, hz0, hz1, hz2⟩ := info_parts infoU8'
  have HI := Lib.hid hi
  have HZ0 := Lib.hid hz0
  have HZ1 := Lib.hid hz1
  have HZ2 := Lib.hid hz2
  have hm := h1.max
  have hl := h1.le
  unfold maxLen at hm
  have HA := Lib.hid h1
  clear h1 hi hz0 hz1 hz2
  cases a with
  | none =>
    obtain rfl : n = 0 := by
      rcases Nat.eq_zero_or_pos n with h | h
      · exact h
      · exact absurd (HA.out.at_ h).1 (by simp)
    have hnil : ∀ W, (binOp .eql 42 (.slice none 0 c) (.slice none 0 0)).run Try.prog W = .ok (.bool true) W := fun _ => rfl
    go_enter Try.func39, Try.ntmps39
    go_wp2_with fail
    go_ret
    exact ⟨none, 0, 0, rfl, ⟨Nat.le_refl _, by unfold maxLen; omega, fun h => by omega, fun k hk => by omega, HA.out.bd⟩, (fun h => by omega), Below.refl _ _⟩
  | some p =>
    have hnil : ∀ W, (binOp .eql 42 (.slice (some p) n c) (.slice none 0 0)).run Try.prog W = .ok (.bool false) W := fun _ => rfl
    go_enter Try.func39, Try.ntmps39
    have HR0 : Hid (Row (w.alloc (.cells #[] 5)) (.slice (some ⟨w.heap.size, 0, none⟩) 0 0) (some w.heap.size) 5 1 0 (rowV X 0)) := Lib.hid (Row.mk (heap_alloc_new w _) (Nat.le_refl _) (by unfold maxLen; omega) rfl rfl)
    have HB0 : Hid (Below w.heap.size w (w.alloc (.cells #[] 5))) := Lib.hid ((Below.refl _ _).alloc (Nat.le_refl _) _)
    have hbd := HA.out.bd
    by_cases h0 : n = 0
    · subst h0
      go_wp2_with (at_builtin; refine wpList_append_row_zero _ rfl (.tmp 5) (.tmp 6) 42 rfl 5 i0 1 Try.underlying42 HI.out _ _ 0 _ rfl HR0.out (some p) c rfl ?_)
      go_wp2_with fail
      go_ret
      exact ⟨_, _, 0, rfl, ⟨Nat.le_refl _, by unfold maxLen; omega, fun h => by omega, fun k hk => by omega, HA.out.bd⟩, (fun h => by omega), HB0.out⟩
    · obtain ⟨e0, e1⟩ := HA.out.at_ (by omega)
      obtain rfl : p = ⟨b, o, none⟩ := Option.some.inj e0
      have hb8 : (0 + (n : Int)) * 1 ≤ 140737488355328 := by omega
      go_wp2_with (at_builtin; refine wpList_append_row _ rfl (.tmp 5) (.tmp 6) 42 rfl 5 i0 _ 1 1 Try.underlying42 HI.out HZ0.out HZ1.out HZ2.out rfl (by decide) _ _ 0 (rowV X 0) rfl HR0.out ⟨b, o, none⟩ n c (rowV X n) rfl (by omega) (by rw [rowV_len, Nat.mul_one]) ?c1 (rowV_one X n) ?c3 ?c4 ?_)
      case c1 =>
        intro j u hu
        have hj : j < n := by have := (List.getElem?_eq_some_iff.1 hu).1; rwa [rowV_len] at this
        rw [rowV_at X n j hj] at hu
        obtain rfl := Option.some.inj hu
        exact HA.out.cell j hj
      case c3 => unfold maxLen; omega
      case c4 => omega
      intro v' ob' W3 hrow3 hg3 hob3
      have hB3 : Below w.heap.size w W3 := HB0.out.grown hg3 (by simp) (fun g e => by obtain rfl := Option.some.inj e; exact Nat.le_refl _)
      have hrow4 : Row W3 v' (some ob') 5 1 n (rowV X n) := by
        first | exact hrow3 | (rw [Nat.zero_add] at hrow3; exact hrow3)
      obtain ⟨a', c', rfl, hby⟩ := row_by hrow4 hbd
      have HBY := Lib.hid hby
      obtain ⟨cs4, hcs4⟩ := blk_row hrow4
      have HCS4 := Lib.hid hcs4
      have HB3 := Lib.hid hB3
      have HOB : Hid (w.heap.size ≤ ob') := Lib.hid (by
        rcases hob3 with h | h
        · exact Nat.le_of_eq (by first | exact h | exact Option.some.inj h)
        · rw [h]; simp)
      clear hrow3 hg3 hob3 hrow4 hby hB3 hcs4
      go_wp2_with fail
      go_ret
      exact ⟨a', c', _, rfl, HBY.out, (fun _ => ⟨HOB.out, cs4, HCS4.out⟩), HB3.out⟩

set_option maxRecDepth 100000 in
set_option maxHeartbeats 8000000 in
theorem ftwin_t (num t c : Int) (a : Option Addr) (n ca b o : Nat) (X : Nat → Nat) (w : World) (h1 : ByIn w a n ca b o X) (hn : n ≤ 5000) :
    Calls Try.prog 44 #[.agg #[.int .i64 num, .int .i64 t, .int .i64 c, .slice a n ca]] w fun e w' => ∃ a' c' b', e = .returned (.agg #[.int .i64 num, .int .i64 t, .int .i64 c, .slice a' n c']) ∧ ByIn w' a' n c' b' 0 X ∧ (0 < n → w.heap.size ≤ b' ∧ ∃ cs, Blk w' b' cs 5) ∧ Below w.heap.size w w' := by
  have HS := Lib.hid h1
  clear h1
  obtain ⟨N, hN⟩ : ∃ N, N = w.heap.size := ⟨_, rfl⟩
  have HN := Lib.hid hN
  have HB0 : Hid (Below w.heap.size w ((w.alloc (.cells #[.int .i64 num, .int .i64 t, .int .i64 c, .slice a n ca] 53)).alloc (.cells #[.int .i64 0, .int .i64 0, .int .i64 0, .slice none 0 0] 53))) := Lib.hid (((Below.refl _ _).alloc (Nat.le_refl _) _).alloc (by simp) _)
  have HP : Hid (Blk ((w.alloc (.cells #[.int .i64 num, .int .i64 t, .int .i64 c, .slice a n ca] 53)).alloc (.cells #[.int .i64 0, .int .i64 0, .int .i64 0, .slice none 0 0] 53)) N #[.int .i64 num, .int .i64 t, .int .i64 c, .slice a n ca] 53) := Lib.hid (by rw [hN]; exact (blk_new _ _ _).alloc _)
  have HR : Hid (Blk ((w.alloc (.cells #[.int .i64 num, .int .i64 t, .int .i64 c, .slice a n ca] 53)).alloc (.cells #[.int .i64 0, .int .i64 0, .int .i64 0, .slice none 0 0] 53)) (N + 1) #[.int .i64 0, .int .i64 0, .int .i64 0, .slice none 0 0] 53) := Lib.hid (by have := blk_new (w.alloc (.cells #[.int .i64 num, .int .i64 t, .int .i64 c, .slice a n ca] 53)) #[.int .i64 0, .int .i64 0, .int .i64 0, .slice none 0 0] 53; rw [World.size_alloc, ← hN] at this; exact this)
  clear hN
  go_enter Try.func44, Try.ntmps44
  go_wp2_with fail
  go_at_call 39
  refine (pclone_t _ _ _ _ _ _ _ (HS.out.below HB0.out) hn).mono ?_
  rintro e W1 ⟨a', c', b', rfl, hby, hfr, hB1⟩
  rw [← HN.out]
  have HB1 := Lib.hid (HB0.out.trans (hB1.mono HB0.out.size))
  have HP1 := Lib.hid (HP.out.step hB1)
  have HR1 := Lib.hid (HR.out.step hB1)
  have HBY := Lib.hid hby
  have HF : Hid (0 < n → N + 2 ≤ b') := Lib.hid (fun hp => by have := (hfr hp).1; simp only [World.size_alloc] at this; rw [← HN.out] at this; omega)
  have HT : Hid (0 < n → ∃ cs, Blk W1 b' cs 5) := Lib.hid (fun hp => (hfr hp).2)
  clear hby hfr hB1 HB0 HP HR
  have c0 : W1.cell? ⟨N, 0, none⟩ = some (.int .i64 num) := cell_at HP1.out 0
  have c1 : W1.cell? ⟨N, 1, none⟩ = some (.int .i64 t) := cell_at HP1.out 1
  have c2 : W1.cell? ⟨N, 2, none⟩ = some (.int .i64 c) := cell_at HP1.out 2
  have c3 : W1.cell? ⟨N, 3, none⟩ = some (.slice a n ca) := cell_at HP1.out 3
  have z3 := free_at HP1.out 3
  have d0 : W1.cell? ⟨N + 1, 0, none⟩ = some (.int .i64 0) := cell_at HR1.out 0
  have d1 : W1.cell? ⟨N + 1, 1, none⟩ = some (.int .i64 0) := cell_at HR1.out 1
  have d2 : W1.cell? ⟨N + 1, 2, none⟩ = some (.int .i64 0) := cell_at HR1.out 2
  have d3 : W1.cell? ⟨N + 1, 3, none⟩ = some (.slice none 0 0) := cell_at HR1.out 3
  have y0 := free_at HR1.out 0
  have y1 := free_at HR1.out 1
  have y2 := free_at HR1.out 2
  have y3 := free_at HR1.out 3
  have hl1 : N < W1.heap.size := HP1.out.lt
  have hl2 : N + 1 < W1.heap.size := HR1.out.lt
  go_wp2_with fail
  obtain ⟨WF, hWF⟩ : ∃ WF, WF = ((((W1.setCell ⟨N, 3, none⟩ (.slice a' n c')).setCell ⟨N + 1, 0, none⟩ (.int .i64 num)).setCell ⟨N + 1, 1, none⟩ (.int .i64 t)).setCell ⟨N + 1, 2, none⟩ (.int .i64 c)).setCell ⟨N + 1, 3, none⟩ (.slice a' n c') := ⟨_, rfl⟩
  have k1 : Blk WF (N + 1) #[.int .i64 num, .int .i64 t, .int .i64 c, .slice a' n c'] 53 := by rw [hWF]; exact ((((HR1.out.ne ⟨N, 3, none⟩ (by simp) _).set 0 (.int .i64 num)).set 1 (.int .i64 t)).set 2 (.int .i64 c)).set 3 (.slice a' n c')
  have hBF : Below w.heap.size w WF := by rw [hWF]; exact ((((HB1.out.setCell (p := ⟨N, 3, none⟩) (by have := HN.out; simp only; omega) _).setCell (p := ⟨N + 1, 0, none⟩) (by have := HN.out; simp only; omega) _).setCell (p := ⟨N + 1, 1, none⟩) (by have := HN.out; simp only; omega) _).setCell (p := ⟨N + 1, 2, none⟩) (by have := HN.out; simp only; omega) _).setCell (p := ⟨N + 1, 3, none⟩) (by have := HN.out; simp only; omega) _
  have hn1 : 0 < n → b' ≠ N := fun hp => by have := HF.out hp; omega
  have hn2 : 0 < n → b' ≠ N + 1 := fun hp => by have := HF.out hp; omega
  have k2 : ByIn WF a' n c' b' 0 X := by rw [hWF]; exact ((((HBY.out.ne ⟨N, 3, none⟩ hn1 _).ne ⟨N + 1, 0, none⟩ hn2 _).ne ⟨N + 1, 1, none⟩ hn2 _).ne ⟨N + 1, 2, none⟩ hn2 _).ne ⟨N + 1, 3, none⟩ hn2 _
  have k3 : 0 < n → ∃ cs, Blk WF b' cs 5 := fun hp => by
    obtain ⟨cs, hb⟩ := HT.out hp
    rw [hWF]
    exact ⟨cs, ((((hb.ne ⟨N, 3, none⟩ (hn1 hp) _).ne ⟨N + 1, 0, none⟩ (hn2 hp) _).ne ⟨N + 1, 1, none⟩ (hn2 hp) _).ne ⟨N + 1, 2, none⟩ (hn2 hp) _).ne ⟨N + 1, 3, none⟩ (hn2 hp) _⟩
  rw [← hWF]
  have r0 : WF.cell? ⟨N + 1, 0, none⟩ = some (.int .i64 num) := cell_at k1 0
  have r1 : WF.cell? ⟨N + 1, 1, none⟩ = some (.int .i64 t) := cell_at k1 1
  have r2 : WF.cell? ⟨N + 1, 2, none⟩ = some (.int .i64 c) := cell_at k1 2
  have r3 : WF.cell? ⟨N + 1, 3, none⟩ = some (.slice a' n c') := cell_at k1 3
  exact bodyPost_ret (v := .agg #[.int .i64 num, .int .i64 t, .int .i64 c, .slice a' n c']) (by simp [results, Try.results44, go_sem, r0, r1, r2, r3]) rfl ⟨a', c', b', rfl, k2, (fun hp => ⟨by have := HF.out hp; have := HN.out; omega, k3 hp⟩), hBF⟩

set_option maxRecDepth 100000 in
set_option maxHeartbeats 8000000 in
theorem fpush_t (D R o room f n : Nat) (by_ dr : Int) (E : Nat → PkE) (num t c : Int) (a : Option Addr) (ln ca : Nat) (w : World) (hq : FqIn w D R o room f n by_ dr E) (hn : n < room) (b ob : Nat) (X : Nat → Nat) (hl : ByIn w a ln ca b ob X) (h14 : ln ≤ 1492) (hby : 0 ≤ by_ ∧ by_ ≤ 1000000) :
    Calls Try.prog 24 #[.pointer (some ⟨D, 0, none⟩), .agg #[.int .i64 num, .int .i64 t, .int .i64 c, .slice a ln ca]] w fun e w' => e = .returned (.int .i64 0) ∧ (∃ a' c' b', (0 < ln → w.heap.size ≤ b' ∧ ∃ cs, Blk w' b' cs 5) ∧ FqIn w' D R o room f (n + 1) (by_ + (8 + (ln : Int))) dr (putE E n ⟨num, t, c, a', ln, c', b', 0, X⟩)) ∧ Fr [D, R] w w' := by
  obtain ⟨N, hN⟩ : ∃ N, N = w.heap.size := ⟨_, rfl⟩
  obtain ⟨W1, hW1⟩ : ∃ W1, W1 = w.alloc (.cells #[.int .i64 num, .int .i64 t, .int .i64 c, .slice a ln ca] 53) := ⟨_, rfl⟩
  have hB1 : Below w.heap.size w W1 := by rw [hW1]; exact (Below.refl _ _).alloc (Nat.le_refl _) _
  have hp : Blk W1 N #[.int .i64 num, .int .i64 t, .int .i64 c, .slice a ln ca] 53 := by rw [hW1, hN]; exact blk_new _ _ _
  have hD : D < N := by rw [hN]; exact hq.own.lt
  have hR : R < N := by rw [hN]; obtain ⟨_, h1, _⟩ := hq.ring; exact h1.lt
  have HB1 := Lib.hid hB1
  have HP1 := Lib.hid hp
  have HQ1 := Lib.hid (hq.below hB1)
  have HL1 := Lib.hid (hl.below hB1)
  have HN := Lib.hid hN
  have hnil : ∀ W, (binOp .eql 65 (.pointer (some ⟨D, 0, none⟩)) (.pointer none)).run Try.prog W = .ok (.bool false) W := fun _ => rfl
  have d1 : decide ((1500 : Int) < 8 + ln) = false := by simp; omega
  have p0 : W1.cell? ⟨N, 0, none⟩ = some (.int .i64 num) := cell_at hp 0
  have p1 : W1.cell? ⟨N, 1, none⟩ = some (.int .i64 t) := cell_at hp 1
  have p2 : W1.cell? ⟨N, 2, none⟩ = some (.int .i64 c) := cell_at hp 2
  have p3 : W1.cell? ⟨N, 3, none⟩ = some (.slice a ln ca) := cell_at hp 3
  have hN1 : N < W1.heap.size := hp.lt
  clear hq hl hB1 hp
  go_enter Try.func24, Try.ntmps24
  go_upto_region 3 with fail
  rw [← hN, ← hW1]
  clear hN hW1
  go_wp2_with fail
  go_at_call 42
  refine (fsize_any _ _ _ _ _ _ _ (by omega)).mono ?_
  rintro e W2 ⟨rfl, hB2⟩
  have HB2 := Lib.hid (HB1.out.trans (hB2.mono HB1.out.size))
  have HP2 := Lib.hid (HP1.out.step hB2)
  have HQ2 := Lib.hid (HQ1.out.below hB2)
  have HL2 := Lib.hid (HL1.out.below hB2)
  clear hB2 p0 p1 p2 p3 hN1
  go_upto_region 5 with fail
  have HB2d := Lib.hid (HB2.out.drew)
  have HP2d : Hid (Blk W2.drew N #[.int .i64 num, .int .i64 t, .int .i64 c, .slice a ln ca] 53) := Lib.hid HP2.out
  have HQ2d : Hid (FqIn W2.drew D R o room f n by_ dr E) := Lib.hid (HQ2.out.below ((Below.refl _ _).drew : Below W2.heap.size W2 W2.drew))
  have HL2d : Hid (ByIn W2.drew a ln ca b ob X) := Lib.hid (HL2.out.below ((Below.refl _ _).drew : Below W2.heap.size W2 W2.drew))
  refine wp_region_held_drew (S := fun X => X.cell? ⟨N, 0, none⟩ = some (.int .i64 num) ∧ X.cell? ⟨N, 1, none⟩ = some (.int .i64 t) ∧ X.cell? ⟨N, 2, none⟩ = some (.int .i64 c) ∧ X.cell? ⟨N, 3, none⟩ = some (.slice a ln ca) ∧ N < X.heap.size) (by kernel_rfl) ⟨cell_at HP2d.out 0, cell_at HP2d.out 1, cell_at HP2d.out 2, cell_at HP2d.out 3, HP2d.out.lt⟩ (fun hHeld => ?_)
  ((refine wpAnyH_take (i := 0) (v := ?_) (by (simp only [List.getElem?_toArray, List.getElem?_cons_succ, List.getElem?_cons_zero]); rfl) (by kernel_rfl) (by kernel_rfl) (by kernel_rfl) (by exact fun _ _ _ h => h) (Or.inl ⟨by rfl, ?_⟩) (by assumption) ?_); rotate_left; focus (intro wS hSw; (try dsimp only at hSw); go_simp; first | done | with_reducible rfl); try simp only [Act.put, List.setIfInBounds_toArray, List.set_cons_zero, List.set_cons_succ])
  ((refine wpAnyH_take (i := 1) (v := ?_) (by (simp only [List.getElem?_toArray, List.getElem?_cons_succ, List.getElem?_cons_zero]); rfl) (by kernel_rfl) (by kernel_rfl) (by kernel_rfl) (by exact fun _ _ _ h => h) (Or.inl ⟨by rfl, ?_⟩) (by assumption) ?_); rotate_left; focus (intro wS hSw; (try dsimp only at hSw); go_simp; first | done | with_reducible rfl); try simp only [Act.put, List.setIfInBounds_toArray, List.set_cons_zero, List.set_cons_succ])
  ((refine wpAnyH_take (i := 2) (v := ?_) (by (simp only [List.getElem?_toArray, List.getElem?_cons_succ, List.getElem?_cons_zero]); rfl) (by kernel_rfl) (by kernel_rfl) (by kernel_rfl) (by exact fun _ _ _ h => h) (Or.inl ⟨by rfl, ?_⟩) (by assumption) ?_); rotate_left; focus (intro wS hSw; (try dsimp only at hSw); go_simp; first | done | with_reducible rfl); try simp only [Act.put, List.setIfInBounds_toArray, List.set_cons_zero, List.set_cons_succ])
  ((refine wpAnyH_take (i := 3) (v := ?_) (by (simp only [List.getElem?_toArray, List.getElem?_cons_succ, List.getElem?_cons_zero]); rfl) (by kernel_rfl) (by kernel_rfl) (by kernel_rfl) (by exact fun _ _ _ h => h) (Or.inl ⟨by rfl, ?_⟩) (by assumption) ?_); rotate_left; focus (intro wS hSw; (try dsimp only at hSw); go_simp; first | done | with_reducible rfl); try simp only [Act.put, List.setIfInBounds_toArray, List.set_cons_zero, List.set_cons_succ])
  ((refine wpAnyH_ready (rs := [4]) (by kernel_rfl) (by simp) ?_); (refine AllReadyH.cons (by (simp only [List.getElem?_toArray, List.getElem?_cons_succ, List.getElem?_cons_zero]); rfl) (fun K hK => ?_) AllReadyH.nil); go_simp; refine Calls.mono (ftwin_t num t c a ln ca b ob X _ HL2d.out (by omega)) ?_)
  rintro e W3 ⟨a', c', b', rfl, hby3, hfr3, hB3⟩
  have HB3 := Lib.hid (HB2d.out.trans (hB3.mono HB2d.out.size))
  have HP3 := Lib.hid (HP2d.out.step hB3)
  have HQ3 := Lib.hid (HQ2d.out.below hB3)
  have HL3 : Hid (LdIn W3 D R ⟨num, t, c, a', ln, c', b', 0, X⟩) := Lib.hid ⟨hby3, h14, fun h0 => (by have := (hfr3 h0).1; have := HP2d.out.lt; show b' ≠ D; omega), fun h0 => (by have := (hfr3 h0).1; have := HP2d.out.lt; show b' ≠ R; omega)⟩
  have HFR3 : Hid (0 < ln → w.heap.size ≤ b') := Lib.hid (fun h0 => by have := (hfr3 h0).1; have := HB2d.out.size; omega)
  have HT3 : Hid (0 < ln → b' ≠ D ∧ b' ≠ R ∧ ∃ cs, Blk W3 b' cs 5) := Lib.hid (fun h0 => ⟨by have := (hfr3 h0).1; have := HP2d.out.lt; omega, by have := (hfr3 h0).1; have := HP2d.out.lt; omega, (hfr3 h0).2⟩)
  clear hby3 hfr3 hB3
  go_wp2_with fail
  refine hK.out _ _ ⟨cell_at HP3.out 0, cell_at HP3.out 1, cell_at HP3.out 2, cell_at HP3.out 3, HP3.out.lt⟩ (fun hHeld => ?_)
  clear hK K
  try simp only [Act.put, List.setIfInBounds_toArray, List.set_cons_zero, List.set_cons_succ]
  ((refine wpAnyH_ready (rs := [5]) (by kernel_rfl) (by simp) ?_); (refine AllReadyH.cons (by (simp only [List.getElem?_toArray, List.getElem?_cons_succ, List.getElem?_cons_zero]); rfl) (fun K hK => ?_) AllReadyH.nil); go_simp; refine Calls.mono (ring_push D R o room f n by_ dr E num t c a' ln c' _ HQ3.out hn b' 0 X HL3.out) ?_)
  rintro e W4 ⟨rfl, hq4, hF4⟩
  have HP4 : Hid (Blk W4 N #[.int .i64 num, .int .i64 t, .int .i64 c, .slice a ln ca] 53) := Lib.hid ((hF4.block N HP3.out.lt (by simp; omega)).trans HP3.out)
  have HQ4 := Lib.hid hq4
  have HG4 := Lib.hid hF4
  have HF4 : Hid (Fr [D, R] w W4) := Lib.hid (((Fr.of_below HB3.out).mono (by simp)).trans hF4 (by simp))
  clear hq4 hF4
  go_wp2_with fail
  refine hK.out _ _ ⟨cell_at HP4.out 0, cell_at HP4.out 1, cell_at HP4.out 2, cell_at HP4.out 3, HP4.out.lt⟩ (fun hHeld => ?_)
  clear hK K
  try simp only [Act.put, List.setIfInBounds_toArray, List.set_cons_zero, List.set_cons_succ]
  ((refine wpAnyH_take (i := 6) (v := ?_) (by (simp only [List.getElem?_toArray, List.getElem?_cons_succ, List.getElem?_cons_zero]); rfl) (by kernel_rfl) (by kernel_rfl) (by kernel_rfl) (by exact fun _ _ _ h => h) (Or.inl ⟨by rfl, ?_⟩) (by assumption) ?_); rotate_left; focus (intro wS hSw; (try dsimp only at hSw); go_simp; first | done | with_reducible rfl); try simp only [Act.put, List.setIfInBounds_toArray, List.set_cons_zero, List.set_cons_succ])
  ((refine wpAnyH_take (i := 7) (v := ?_) (by (simp only [List.getElem?_toArray, List.getElem?_cons_succ, List.getElem?_cons_zero]); rfl) (by kernel_rfl) (by kernel_rfl) (by kernel_rfl) (by exact fun _ _ _ h => h) (Or.inl ⟨by rfl, ?_⟩) (by assumption) ?_); rotate_left; focus (intro wS hSw; (try dsimp only at hSw); go_simp; first | done | with_reducible rfl); try simp only [Act.put, List.setIfInBounds_toArray, List.set_cons_zero, List.set_cons_succ])
  refine wpAnyH_done (by kernel_rfl) ?_ _
  go_upto_region 8 with fail
  have HP5 : Hid (Blk W4.drew N #[.int .i64 num, .int .i64 t, .int .i64 c, .slice a ln ca] 53) := Lib.hid HP4.out
  have HQ5 : Hid (FqIn W4.drew D R o room f (n + 1) by_ dr (putE E n ⟨num, t, c, a', ln, c', b', 0, X⟩)) := Lib.hid (HQ4.out.below ((Below.refl _ _).drew : Below W4.heap.size W4 W4.drew))
  have HF5 : Hid (Fr [D, R] w W4.drew) := Lib.hid HF4.out.drew
  have p0 : W4.cell? ⟨N, 0, none⟩ = some (.int .i64 num) := cell_at HP4.out 0
  have p1 : W4.cell? ⟨N, 1, none⟩ = some (.int .i64 t) := cell_at HP4.out 1
  have p2 : W4.cell? ⟨N, 2, none⟩ = some (.int .i64 c) := cell_at HP4.out 2
  have p3 : W4.cell? ⟨N, 3, none⟩ = some (.slice a ln ca) := cell_at HP4.out 3
  have pN : N < W4.heap.size := HP4.out.lt
  have k3 : W4.cell? ⟨D, 3, none⟩ = some (.int .i64 by_) := cell_at HQ4.out.own 3
  have z3 := free_at HQ4.out.own 3
  have hDW : D < W4.heap.size := HQ4.out.own.lt
  have hnD : D ≠ N := by omega
  have hw : IntKind.i64.wrap (by_ + (8 + (ln : Int))) = by_ + (8 + (ln : Int)) := by rw [IntKind.wrap_i64]; omega
  refine wp_region_held_drew (S := fun X => X.cell? ⟨N, 0, none⟩ = some (.int .i64 num) ∧ X.cell? ⟨N, 1, none⟩ = some (.int .i64 t) ∧ X.cell? ⟨N, 2, none⟩ = some (.int .i64 c) ∧ X.cell? ⟨N, 3, none⟩ = some (.slice a ln ca) ∧ N < X.heap.size) (by kernel_rfl) ⟨cell_at HP5.out 0, cell_at HP5.out 1, cell_at HP5.out 2, cell_at HP5.out 3, HP5.out.lt⟩ (fun hHeld => ?_)
  ((refine wpAnyH_take (i := 0) (v := ?_) (by (simp only [List.getElem?_toArray, List.getElem?_cons_succ, List.getElem?_cons_zero]); rfl) (by kernel_rfl) (by kernel_rfl) (by kernel_rfl) (by exact fun _ _ _ h => h) (Or.inl ⟨by rfl, ?_⟩) (by assumption) ?_); rotate_left; focus (intro wS hSw; (try dsimp only at hSw); go_simp; first | done | with_reducible rfl); try simp only [Act.put, List.setIfInBounds_toArray, List.set_cons_zero, List.set_cons_succ])
  ((refine wpAnyH_take (i := 1) (v := ?_) (by (simp only [List.getElem?_toArray, List.getElem?_cons_succ, List.getElem?_cons_zero]); rfl) (by kernel_rfl) (by kernel_rfl) (by kernel_rfl) (by exact fun _ _ _ h => h) (Or.inl ⟨by rfl, ?_⟩) (by assumption) ?_); rotate_left; focus (intro wS hSw; (try dsimp only at hSw); go_simp; first | done | with_reducible rfl); try simp only [Act.put, List.setIfInBounds_toArray, List.set_cons_zero, List.set_cons_succ])
  ((refine wpAnyH_take (i := 2) (v := ?_) (by (simp only [List.getElem?_toArray, List.getElem?_cons_succ, List.getElem?_cons_zero]); rfl) (by kernel_rfl) (by kernel_rfl) (by kernel_rfl) (by exact fun _ _ _ h => h) (Or.inl ⟨by rfl, ?_⟩) (by assumption) ?_); rotate_left; focus (intro wS hSw; (try dsimp only at hSw); go_simp; first | done | with_reducible rfl); try simp only [Act.put, List.setIfInBounds_toArray, List.set_cons_zero, List.set_cons_succ])
  ((refine wpAnyH_take (i := 4) (v := ?_) (by (simp only [List.getElem?_toArray, List.getElem?_cons_succ, List.getElem?_cons_zero]); rfl) (by kernel_rfl) (by kernel_rfl) (by kernel_rfl) (by exact fun _ _ _ h => h) (Or.inl ⟨by rfl, ?_⟩) (by assumption) ?_); rotate_left; focus (intro wS hSw; (try dsimp only at hSw); go_simp; first | done | with_reducible rfl); try simp only [Act.put, List.setIfInBounds_toArray, List.set_cons_zero, List.set_cons_succ])
  refine wpAnyH_ready (rs := [3, 5]) (by kernel_rfl) (by simp) ?_
  refine AllReadyH.cons (by (simp only [List.getElem?_toArray, List.getElem?_cons_succ, List.getElem?_cons_zero]); rfl) (fun K hK => ?_) (AllReadyH.cons (by (simp only [List.getElem?_toArray, List.getElem?_cons_succ, List.getElem?_cons_zero]); rfl) (fun K hK => ?_) AllReadyH.nil)
  · go_simp
    refine hK.out _ _ ⟨cell_at HP5.out 0, cell_at HP5.out 1, cell_at HP5.out 2, cell_at HP5.out 3, HP5.out.lt⟩ (fun hHeld => ?_)
    clear hK K
    try simp only [Act.put, List.setIfInBounds_toArray, List.set_cons_zero, List.set_cons_succ]
    ((refine wpAnyH_ready (rs := [5]) (by kernel_rfl) (by simp) ?_); (refine AllReadyH.cons (by (simp only [List.getElem?_toArray, List.getElem?_cons_succ, List.getElem?_cons_zero]); rfl) (fun K hK => ?_) AllReadyH.nil); go_simp; refine Calls.mono (fsize_any _ _ _ _ _ _ _ (by omega)) ?_)
    rintro e W6 ⟨rfl, hB6⟩
    have HP6 := Lib.hid (HP5.out.step hB6)
    have HQ6 := Lib.hid (HQ5.out.below hB6)
    have HF6 : Hid (Fr [D, R] w W6) := Lib.hid (HF5.out.trans (Fr.of_below hB6) (by simp))
    have HG6 : Hid (Fr [D, R] W3 W6) := Lib.hid (HG4.out.drew.trans (Fr.of_below hB6) (by simp))
    have k6 : W6.cell? ⟨D, 3, none⟩ = some (.int .i64 by_) := cell_at HQ6.out.own 3
    have z6 := free_at HQ6.out.own 3
    have hD6 : D < W6.heap.size := HQ6.out.own.lt
    clear hB6
    go_wp2_with fail
    refine hK.out _ _ ⟨cell_at HP6.out 0, cell_at HP6.out 1, cell_at HP6.out 2, cell_at HP6.out 3, HP6.out.lt⟩ (fun hHeld => ?_)
    clear hK K
    try simp only [Act.put, List.setIfInBounds_toArray, List.set_cons_zero, List.set_cons_succ]
    ((refine wpAnyH_take (i := 6) (v := ?_) (by (simp only [List.getElem?_toArray, List.getElem?_cons_succ, List.getElem?_cons_zero]); rfl) (by kernel_rfl) (by kernel_rfl) (by kernel_rfl) (by exact fun _ _ _ h => h) (Or.inl ⟨by rfl, ?_⟩) (by assumption) ?_); rotate_left; focus (intro wS hSw; (try dsimp only at hSw); go_simp; first | done | with_reducible rfl); try simp only [Act.put, List.setIfInBounds_toArray, List.set_cons_zero, List.set_cons_succ])
    ((refine wpAnyH_take (i := 7) (v := ?_) (by (simp only [List.getElem?_toArray, List.getElem?_cons_succ, List.getElem?_cons_zero]); rfl) (by kernel_rfl) (by kernel_rfl) (by kernel_rfl) (by exact fun _ _ _ h => h) (Or.inl ⟨by rfl, ?_⟩) (by assumption) ?_); rotate_left; focus (intro wS hSw; (try dsimp only at hSw); go_simp; first | done | with_reducible rfl); try simp only [Act.put, List.setIfInBounds_toArray, List.set_cons_zero, List.set_cons_succ])
    ((refine wpAnyH_take (i := 8) (v := ?_) (by (simp only [List.getElem?_toArray, List.getElem?_cons_succ, List.getElem?_cons_zero]); rfl) (by kernel_rfl) (by kernel_rfl) (by kernel_rfl) (by exact fun _ _ _ h => h) (Or.inl ⟨by rfl, ?_⟩) (by assumption) ?_); rotate_left; focus (intro wS hSw; (try dsimp only at hSw); go_simp; first | done | with_reducible rfl); try simp only [Act.put, List.setIfInBounds_toArray, List.set_cons_zero, List.set_cons_succ])
    refine wpAnyH_ready (rs := [9]) (by kernel_rfl) (by simp) ?_
    refine AllReadyH.cons (by (simp only [List.getElem?_toArray, List.getElem?_cons_succ, List.getElem?_cons_zero]); rfl) (fun K hK => ?_) AllReadyH.nil
    go_simp
    have HP7 := Lib.hid (HP6.out.ne ⟨D, 3, none⟩ hnD.symm (.int .i64 (by_ + (8 + (ln : Int)))))
    have HQ7 := Lib.hid (HQ6.out.bytes (by_ + (8 + (ln : Int))))
    have HG7 := Lib.hid (HG6.out.setCell ⟨D, 3, none⟩ (.inl (by simp)) (.int .i64 (by_ + (8 + (ln : Int)))))
    have HF7 := Lib.hid (HF6.out.setCell ⟨D, 3, none⟩ (.inl (by simp)) (.int .i64 (by_ + (8 + (ln : Int)))))
    refine hK.out _ _ ⟨cell_at HP7.out 0, cell_at HP7.out 1, cell_at HP7.out 2, cell_at HP7.out 3, HP7.out.lt⟩ (fun hHeld => ?_)
    clear hK K
    try simp only [Act.put, List.setIfInBounds_toArray, List.set_cons_zero, List.set_cons_succ]
    refine wpAnyH_done (by kernel_rfl) ?_ _
    go_wp2_with fail
    go_ret
    exact ⟨rfl, ⟨a', c', b', (fun h0 => ⟨HFR3.out h0, by obtain ⟨n1, n2, cs, hb⟩ := HT3.out h0; exact ⟨cs, (HG7.out.block _ hb.lt (by simp [n1, n2])).trans hb⟩⟩), HQ7.out⟩, HF7.out⟩
  · go_simp
    refine Calls.mono (fsize_any _ _ _ _ _ _ _ (by omega)) ?_
    rintro e W6 ⟨rfl, hB6⟩
    have HP6 := Lib.hid (HP5.out.step hB6)
    have HQ6 := Lib.hid (HQ5.out.below hB6)
    have HF6 : Hid (Fr [D, R] w W6) := Lib.hid (HF5.out.trans (Fr.of_below hB6) (by simp))
    have HG6 : Hid (Fr [D, R] W3 W6) := Lib.hid (HG4.out.drew.trans (Fr.of_below hB6) (by simp))
    have k6 : W6.cell? ⟨D, 3, none⟩ = some (.int .i64 by_) := cell_at HQ6.out.own 3
    have z6 := free_at HQ6.out.own 3
    have hD6 : D < W6.heap.size := HQ6.out.own.lt
    clear hB6
    go_wp2_with fail
    refine hK.out _ _ ⟨cell_at HP6.out 0, cell_at HP6.out 1, cell_at HP6.out 2, cell_at HP6.out 3, HP6.out.lt⟩ (fun hHeld => ?_)
    clear hK K
    try simp only [Act.put, List.setIfInBounds_toArray, List.set_cons_zero, List.set_cons_succ]
    refine wpAnyH_ready (rs := [3]) (by kernel_rfl) (by simp) ?_
    refine AllReadyH.cons (by (simp only [List.getElem?_toArray, List.getElem?_cons_succ, List.getElem?_cons_zero]); rfl) (fun K hK => ?_) AllReadyH.nil
    go_simp
    refine hK.out _ _ ⟨cell_at HP6.out 0, cell_at HP6.out 1, cell_at HP6.out 2, cell_at HP6.out 3, HP6.out.lt⟩ (fun hHeld => ?_)
    clear hK K
    try simp only [Act.put, List.setIfInBounds_toArray, List.set_cons_zero, List.set_cons_succ]
    ((refine wpAnyH_take (i := 6) (v := ?_) (by (simp only [List.getElem?_toArray, List.getElem?_cons_succ, List.getElem?_cons_zero]); rfl) (by kernel_rfl) (by kernel_rfl) (by kernel_rfl) (by exact fun _ _ _ h => h) (Or.inl ⟨by rfl, ?_⟩) (by assumption) ?_); rotate_left; focus (intro wS hSw; (try dsimp only at hSw); go_simp; first | done | with_reducible rfl); try simp only [Act.put, List.setIfInBounds_toArray, List.set_cons_zero, List.set_cons_succ])
    ((refine wpAnyH_take (i := 7) (v := ?_) (by (simp only [List.getElem?_toArray, List.getElem?_cons_succ, List.getElem?_cons_zero]); rfl) (by kernel_rfl) (by kernel_rfl) (by kernel_rfl) (by exact fun _ _ _ h => h) (Or.inl ⟨by rfl, ?_⟩) (by assumption) ?_); rotate_left; focus (intro wS hSw; (try dsimp only at hSw); go_simp; first | done | with_reducible rfl); try simp only [Act.put, List.setIfInBounds_toArray, List.set_cons_zero, List.set_cons_succ])
    ((refine wpAnyH_take (i := 8) (v := ?_) (by (simp only [List.getElem?_toArray, List.getElem?_cons_succ, List.getElem?_cons_zero]); rfl) (by kernel_rfl) (by kernel_rfl) (by kernel_rfl) (by exact fun _ _ _ h => h) (Or.inl ⟨by rfl, ?_⟩) (by assumption) ?_); rotate_left; focus (intro wS hSw; (try dsimp only at hSw); go_simp; first | done | with_reducible rfl); try simp only [Act.put, List.setIfInBounds_toArray, List.set_cons_zero, List.set_cons_succ])
    refine wpAnyH_ready (rs := [9]) (by kernel_rfl) (by simp) ?_
    refine AllReadyH.cons (by (simp only [List.getElem?_toArray, List.getElem?_cons_succ, List.getElem?_cons_zero]); rfl) (fun K hK => ?_) AllReadyH.nil
    go_simp
    have HP7 := Lib.hid (HP6.out.ne ⟨D, 3, none⟩ hnD.symm (.int .i64 (by_ + (8 + (ln : Int)))))
    have HQ7 := Lib.hid (HQ6.out.bytes (by_ + (8 + (ln : Int))))
    have HG7 := Lib.hid (HG6.out.setCell ⟨D, 3, none⟩ (.inl (by simp)) (.int .i64 (by_ + (8 + (ln : Int)))))
    have HF7 := Lib.hid (HF6.out.setCell ⟨D, 3, none⟩ (.inl (by simp)) (.int .i64 (by_ + (8 + (ln : Int)))))
    refine hK.out _ _ ⟨cell_at HP7.out 0, cell_at HP7.out 1, cell_at HP7.out 2, cell_at HP7.out 3, HP7.out.lt⟩ (fun hHeld => ?_)
    clear hK K
    try simp only [Act.put, List.setIfInBounds_toArray, List.set_cons_zero, List.set_cons_succ]
    refine wpAnyH_done (by kernel_rfl) ?_ _
    go_wp2_with fail
    go_ret
    exact ⟨rfl, ⟨a', c', b', (fun h0 => ⟨HFR3.out h0, by obtain ⟨n1, n2, cs, hb⟩ := HT3.out h0; exact ⟨cs, (HG7.out.block _ hb.lt (by simp [n1, n2])).trans hb⟩⟩), HQ7.out⟩, HF7.out⟩
end Go.Proofs.Ytoodmocapagapaa
namespace Go.Proofs.Ytoodmocapagapaa
open Go.RowKit
set_option linter.unusedSimpArgs false
set_option linter.unusedVariables false

/-- a packet as data -/
structure PD where
  num : Int
  t : Int
  c : Int
  n : Nat
  X : Nat → Nat
def PkE.d (p : PkE) : PD := ⟨p.num, p.t, p.c, p.n, p.X⟩
def PD.sz (p : PD) : Int := 8 + (p.n : Int)
def qlE (E : Nat → PkE) (n : Nat) : List PD := (List.range n).map fun j => (E j).d
theorem qlE_len (E : Nat → PkE) (n : Nat) : (qlE E n).length = n := by simp [qlE]
theorem qlE_push (E : Nat → PkE) (n : Nat) (p : PkE) : qlE (putE E n p) (n + 1) = qlE E n ++ [p.d] := by
  unfold qlE
  rw [List.range_succ, List.map_append]
  congr 1
  · apply List.map_congr_left
    intro j hj
    have := List.mem_range.1 hj
    unfold putE
    rw [if_neg (by omega)]
  · simp [putE]
theorem qlE_pop (E : Nat → PkE) (n : Nat) : qlE E (n + 1) = (E 0).d :: qlE (fun j => E (j + 1)) n := by
  unfold qlE
  rw [List.range_succ_eq_map, List.map_cons, List.map_map]
  rfl
def sumZ : List PD → Int
  | [] => 0
  | p :: l => p.sz + sumZ l
theorem sumZ_push (p : PD) : ∀ l : List PD, sumZ (l ++ [p]) = sumZ l + p.sz
  | [] => by simp [sumZ]
  | x :: l => by rw [List.cons_append, sumZ, sumZ, sumZ_push p l]; omega
theorem sumZ_bd : ∀ l : List PD, (∀ p ∈ l, p.n ≤ 1492) → 0 ≤ sumZ l ∧ sumZ l ≤ 1500 * (l.length : Int)
  | [], _ => by simp [sumZ]
  | x :: l, h => by
    have h1 := sumZ_bd l fun p hp => h p (List.mem_cons_of_mem _ hp)
    have h2 := h x (List.mem_cons_self ..)
    rw [sumZ, List.length_cons]
    unfold PD.sz
    omega
/-- a shaper as data -/
structure SS where
  fs : FS
  q : Nat → List PD
  tok : Nat → Int
  bud : Int
  num : Int
/-- where it lies -/
structure ShM where
  g : Nat
  fo : Nat
  ft : Nat
  c1 : Nat
  c2 : Nat
  qb : Nat
  qc : Nat
  fb : Nat
  fc : Nat
  D : Nat → Nat
  R : Nat → Nat
  f : Nat → Nat
  dr : Nat → Int
  E : Nat → Nat → PkE
def wL (fl : Nat → FlowE) (n : Nat) : List Int := (List.range n).map fun k => (fl k).w
theorem wL_len (fl : Nat → FlowE) (n : Nat) : (wL fl n).length = n := by simp [wL]
theorem wL_at (fl : Nat → FlowE) {n k : Nat} (h : k < n) : gI (wL fl n) k = (fl k).w := by simp [gI, wL, h]
theorem wL_succ (fl : Nat → FlowE) (n : Nat) : wL fl (n + 1) = wL fl n ++ [(fl n).w] := by simp [wL, List.range_succ]
def alF (fl : Nat → FlowE) (n : Nat) : Int := sumW (gI (wL fl n)) n
/-- what a flow's first packet may be sent as: its size, or nothing -/
def sndK (fl : Nat → FlowE) (s : SS) (k : Nat) : Int := match s.q k with
  | [] => 0
  | p :: _ => if p.sz ≤ s.tok (fl k).t.toNat then p.sz else 0
def letS (s : SS) (f' : FS) (k : Nat) (p : PD) (r : List PD) : SS := ⟨f', upf s.q k r, upf s.tok p.t.toNat (s.tok p.t.toNat - p.sz), s.bud - p.sz, s.num⟩
def pumpF (fl : Nat → FlowE) (n : Nat) : Nat → SS → SS × List (Nat × PD)
  | 0, s => (s, [])
  | f + 1, s => if s.bud ≤ 0 then (s, []) else
      match pkK n (gI (wL fl n)) (alF fl n) (sndK fl s) s.fs with
      | none => (⟨pkS n (gI (wL fl n)) (alF fl n) (sndK fl s) s.fs, s.q, s.tok, s.bud, s.num⟩, [])
      | some k => match s.q k with
        | [] => (s, [])
        | p :: r => ((pumpF fl n f (letS s (pkS n (gI (wL fl n)) (alF fl n) (sndK fl s) s.fs) k p r)).1, (k, p) :: (pumpF fl n f (letS s (pkS n (gI (wL fl n)) (alF fl n) (sndK fl s) s.fs) k p r)).2)
def totL (q : Nat → List PD) : Nat → Nat
  | 0 => 0
  | n + 1 => totL q n + (q n).length
theorem totL_ge {q : Nat → List PD} {k : Nat} {r : List PD} : ∀ {m : Nat}, m ≤ k → totL (upf q k r) m = totL q m
  | 0, _ => rfl
  | m + 1, h => by rw [totL, totL, totL_ge (by omega : m ≤ k), upf_ne _ _ (by omega)]
theorem totL_up {q : Nat → List PD} {k : Nat} {p : PD} {r : List PD} (h : q k = p :: r) : ∀ {n : Nat}, k < n → totL (upf q k r) n + 1 = totL q n
  | 0, hk => by omega
  | n + 1, hk => by
    rw [totL, totL]
    by_cases e : k = n
    · subst e
      rw [totL_ge (Nat.le_refl _), upf_at, h, List.length_cons]
      omega
    · rw [upf_ne _ _ (fun e' => e e'.symm), ← totL_up h (by omega : k < n)]
      omega
def budIn (s : SS) (b : Int) : SS := ⟨s.fs, s.q, s.tok, min (s.bud + min (max b 0) 1048576) 1048576, s.num⟩
def budOut (s : SS) : SS := ⟨s.fs, s.q, s.tok, min s.bud 0, s.num⟩
def pumpS (fl : Nat → FlowE) (n : Nat) (b : Int) (s : SS) : SS × List (Nat × PD) := (budOut (pumpF fl n (totL s.q n + 1) (budIn s b)).1, (pumpF fl n (totL s.q n + 1) (budIn s b)).2)

theorem ne_ty {W : World} {p q : Nat} {cs cs' : Array Value} {ty ty' : TypeId} (h : Blk W p cs ty) (k : Blk W q cs' ty') (ht : ty ≠ ty') : p ≠ q := fun e => by
  subst e
  have := h.symm.trans k
  injection this with e'
  injection e' with e1 e2
  exact ht e2
def shC (m : ShM) (n : Nat) (s : SS) : Array Value := #[.slice (some ⟨m.fb, 0, none⟩) n m.fc, .slice (some ⟨m.qb, 0, none⟩) n m.qc, .pointer (some ⟨m.g, 0, none⟩), .int .i64 (s.tok 0), .int .i64 (s.tok 1), .int .i64 (s.tok 2), .int .i64 (s.tok 3), .int .i64 (s.tok 4), .int .i64 (s.tok 5), .int .i64 (s.tok 6), .int .i64 (s.tok 7), .int .i64 (s.tok 8), .int .i64 (s.tok 9), .int .i64 (s.tok 10), .int .i64 (s.tok 11), .int .i64 (s.tok 12), .int .i64 (s.tok 13), .int .i64 (s.tok 14), .int .i64 (s.tok 15), .int .i64 (s.tok 16), .int .i64 s.bud, .int .i64 s.num]
def qpL (D : Nat → Nat) (n : Nat) : List Value := (List.range n).map fun k => .pointer (some ⟨D k, 0, none⟩)
theorem qpL_len (D : Nat → Nat) (n : Nat) : (qpL D n).length = n := by simp [qpL]
theorem qpL_at (D : Nat → Nat) {n k : Nat} (h : k < n) : (qpL D n)[k]? = some (.pointer (some ⟨D k, 0, none⟩)) := by simp [qpL, h]
theorem qpL_succ (D : Nat → Nat) (n : Nat) : qpL D (n + 1) = qpL D n ++ [.pointer (some ⟨D n, 0, none⟩)] := by simp [qpL, List.range_succ]
/-- flows that may be a shaper's -/
structure FlOk (fl : Nat → FlowE) (n : Nat) : Prop where
  n1 : 1 ≤ n ∧ n ≤ 8
  t : ∀ k, k < n → 1 ≤ (fl k).t ∧ (fl k).t ≤ 16
  r : ∀ k, k < n → 1 ≤ (fl k).r ∧ (fl k).r ≤ 64
  w : okWt (wL fl n)
theorem FlOk.wt {fl : Nat → FlowE} {n : Nat} (h : FlOk fl n) : WtOk n (gI (wL fl n)) (alF fl n) := by
  have := h.w.ok
  rw [wL_len] at this
  exact this
/-- rows that never change -/
structure ShR (W : World) (M : Nat) (fl : Nat → FlowE) (n : Nat) (fb fc qb qc : Nat) (D : Nat → Nat) : Prop where
  flr : Row W (.slice (some ⟨fb, 0, none⟩) n fc) (some fb) 51 3 n (flowL fl n)
  qr : Row W (.slice (some ⟨qb, 0, none⟩) n qc) (some qb) 65 1 n (qpL D n)
  ge : M ≤ fb ∧ M ≤ qb
/-- queues -/
structure ShQ (W : World) (M : Nat) (fl : Nat → FlowE) (n c : Nat) (D R f : Nat → Nat) (dr : Nat → Int) (E : Nat → Nat → PkE) (q : Nat → List PD) : Prop where
  qs : ∀ k, k < n → FqIn W (D k) (R k) 0 (fl k).r.toNat (f k) (q k).length (sumZ (q k)) (dr k) (E k)
  qd : ∀ k, k < n → q k = qlE (E k) (q k).length
  qt : ∀ k, k < n → ∀ p ∈ q k, p.t = (fl k).t ∧ (0 ≤ p.c ∧ p.c ≤ 255) ∧ p.n ≤ 1492
  ld : ∀ k, k < n → ∀ j, j < (q k).length → 0 < (E k j).n → ∃ cs, Blk W (E k j).b cs 5
  inj : ∀ i k, i < n → k < n → i ≠ k → D i ≠ D k ∧ R i ≠ R k
  dr : ∀ k, k < n → 0 ≤ dr k ∧ dr k ≤ c
  ge : ∀ k, k < n → M ≤ D k ∧ M ≤ R k
structure ShAt (W : World) (M S : Nat) (fl : Nat → FlowE) (n c : Nat) (m : ShM) (s : SS) : Prop where
  blk : Blk W S (shC m n s) 64
  r : ShR W M fl n m.fb m.fc m.qb m.qc m.D
  fr : FrAt W M m.g m.fo m.ft n m.c1 m.c2 (gI (wL fl n)) (alF fl n) s.fs
  iv : Inv n s.fs
  q : ShQ W M fl n c m.D m.R m.f m.dr m.E s.q
  tk : ∀ t, 0 ≤ s.tok t ∧ s.tok t ≤ 1099511627776
  bd : -1500 ≤ s.bud ∧ s.bud ≤ 1048576
  nm : 0 ≤ s.num ∧ s.num ≤ c
  ge : M ≤ S
def OT (W : World) (L : List Nat) (l : List TypeId) : Prop := ∀ x ∈ L, ∃ cs ty, Blk W x cs ty ∧ ty ∉ l
theorem row_ot {W W' : World} {v : Value} {x : Nat} {e : TypeId} {sz m : Nat} {xs : List Value} {L : List Nat} {l : List TypeId} (h : Row W v (some x) e sz m xs) (hf : Fr L W W') (hl : OT W L l) (he : e ∈ l) : Row W' v (some x) e sz m xs :=
  row_frT h hf fun q hq => by obtain ⟨cs, ty, h1, h2⟩ := hl q hq; exact ⟨cs, ty, h1, fun e' => h2 (e' ▸ he)⟩
theorem blk_ot {W W' : World} {x : Nat} {cs : Array Value} {e : TypeId} {L : List Nat} {l : List TypeId} (h : Blk W x cs e) (hf : Fr L W W') (hl : OT W L l) (he : e ∈ l) : W'.heap[x]? = W.heap[x]? :=
  hf.block x h.lt fun hm => by
    obtain ⟨cs', ty, h1, h2⟩ := hl x hm
    exact ne_ty h h1 (fun e' => h2 (e' ▸ he)) rfl
theorem ShR.fr {W W' : World} {M : Nat} {fl : Nat → FlowE} {n fb fc qb qc : Nat} {D : Nat → Nat} (h : ShR W M fl n fb fc qb qc D) {L : List Nat} (hf : Fr L W W') (hl : OT W L [51, 65]) : ShR W' M fl n fb fc qb qc D :=
  ⟨row_ot h.flr hf hl (by simp), row_ot h.qr hf hl (by simp), h.ge⟩
theorem FqIn.same {W W' : World} {D R o room f n : Nat} {by_ dr : Int} {E : Nat → PkE} (h : FqIn W D R o room f n by_ dr E) (hs : W.heap.size ≤ W'.heap.size) (hD : W'.heap[D]? = W.heap[D]?) (hR : W'.heap[R]? = W.heap[R]?) (hl : ∀ j, j < n → 0 < (E j).n → W'.heap[(E j).b]? = W.heap[(E j).b]?) : FqIn W' D R o room f n by_ dr E := by
  refine ⟨hD.trans h.own, ?_, h.ne, h.r1, h.r64, h.fl, h.nl, fun j hj => ?_⟩
  · obtain ⟨cur, h1, h2⟩ := h.ring
    exact ⟨cur, hR.trans h1, h2⟩
  · obtain ⟨hb, h1, h2, h3⟩ := h.ld j hj
    refine ⟨⟨hb.le, hb.max, fun h0 => ⟨(hb.at_ h0).1, by have := (hb.at_ h0).2; omega⟩, fun k hk => ?_, hb.bd⟩, h1, h2, h3⟩
    exact (cell_congr (hl j hj (by omega)) _).trans (hb.cell k hk)
theorem FqIn.rblk {W : World} {D R o room f n : Nat} {by_ dr : Int} {E : Nat → PkE} (h : FqIn W D R o room f n by_ dr E) : ∃ cs, Blk W R cs 53 := by
  obtain ⟨cur, h1, _⟩ := h.ring
  exact ⟨cur, h1⟩
theorem ShQ.fr {W W' : World} {M : Nat} {fl : Nat → FlowE} {n c : Nat} {D R f : Nat → Nat} {dr : Nat → Int} {E : Nat → Nat → PkE} {q : Nat → List PD} (h : ShQ W M fl n c D R f dr E q) {L : List Nat} (hf : Fr L W W') (hl : OT W L [91, 53, 5]) : ShQ W' M fl n c D R f dr E q := by
  refine ⟨fun k hk => ?_, h.qd, h.qt, fun k hk j hj h0 => ?_, h.inj, h.dr, h.ge⟩
  · obtain ⟨cr, hr⟩ := (h.qs k hk).rblk
    refine (h.qs k hk).same hf.size (blk_ot (h.qs k hk).own hf hl (by simp)) (blk_ot hr hf hl (by simp)) fun j hj h0 => ?_
    obtain ⟨cs, hb⟩ := h.ld k hk j hj h0
    exact blk_ot hb hf hl (by simp)
  · obtain ⟨cs, hb⟩ := h.ld k hk j hj h0
    exact ⟨cs, (blk_ot hb hf hl (by simp)).trans hb⟩
theorem ot_nil (W : World) (l : List TypeId) : OT W [] l := fun x hx => by cases hx
theorem OT.mono {W : World} {L : List Nat} {l l' : List TypeId} (h : OT W L l) (hs : ∀ t ∈ l', t ∈ l) : OT W L l' := fun x hx => by
  obtain ⟨cs, ty, h1, h2⟩ := h x hx
  exact ⟨cs, ty, h1, fun e => h2 (hs _ e)⟩
theorem ot_one {W : World} {x : Nat} {cs : Array Value} {ty : TypeId} {l : List TypeId} (h : Blk W x cs ty) (ht : ty ∉ l) : OT W [x] l := fun y hy => by
  obtain rfl := List.mem_singleton.1 hy
  exact ⟨cs, ty, h, ht⟩
theorem ot_cons {W : World} {x : Nat} {cs : Array Value} {ty : TypeId} {l : List TypeId} {L : List Nat} (h : Blk W x cs ty) (ht : ty ∉ l) (hL : OT W L l) : OT W (x :: L) l := fun y hy => by
  rcases List.mem_cons.1 hy with rfl | hy
  · exact ⟨cs, ty, h, ht⟩
  · exact hL y hy
def shAll : List TypeId := [64, 51, 65, 101, 112, 129, 91, 53, 5]
theorem FrAt.ot {W W' : World} {M g fo ft n c1 c2 : Nat} {wt : Nat → Int} {al : Int} {s : FS} (h : FrAt W M g fo ft n c1 c2 wt al s) {L : List Nat} (hf : Fr L W W') (hl : OT W L [101, 112, 129]) : FrAt W' M g fo ft n c1 c2 wt al s := by
  have hn : g ∉ L ∧ fo ∉ L ∧ ft ∉ L := by
    refine ⟨fun hm => ?_, fun hm => ?_, fun hm => ?_⟩ <;>
    · obtain ⟨cs, ty, h1, h2⟩ := hl _ hm
      have := h.ty h1 h2
      simp at this
  exact h.fr hf hn.1 hn.2.1 hn.2.2
/-- what others write keeps a shaper -/
theorem ShAt.ot {W W' : World} {M S : Nat} {fl : Nat → FlowE} {n c : Nat} {m : ShM} {s : SS} (h : ShAt W M S fl n c m s) {L : List Nat} (hf : Fr L W W') (hl : OT W L shAll) : ShAt W' M S fl n c m s :=
  ⟨(blk_ot h.blk hf hl (by simp [shAll])).trans h.blk, h.r.fr hf (hl.mono (by simp [shAll])), h.fr.ot hf (hl.mono (by simp [shAll])), h.iv, h.q.fr hf (hl.mono (by simp [shAll])), h.tk, h.bd, h.nm, h.ge⟩
theorem ShAt.step {W W' : World} {M S : Nat} {fl : Nat → FlowE} {n c : Nat} {m : ShM} {s : SS} (h : ShAt W M S fl n c m s) (hB : Below W.heap.size W W') : ShAt W' M S fl n c m s := h.ot (Fr.of_below hB) (ot_nil _ _)
/-- its own block written -/
theorem ShAt.set {W W' : World} {M S : Nat} {fl : Nat → FlowE} {n c : Nat} {m : ShM} {s s' : SS} (h : ShAt W M S fl n c m s) (hf : Fr [S] W W') (hb : Blk W' S (shC m n s') 64) (h1 : s'.fs = s.fs) (h2 : s'.q = s.q) (h3 : ∀ t, 0 ≤ s'.tok t ∧ s'.tok t ≤ 1099511627776) (h4 : -1500 ≤ s'.bud ∧ s'.bud ≤ 1048576) (h5 : 0 ≤ s'.num ∧ s'.num ≤ c) : ShAt W' M S fl n c m s' :=
  ⟨hb, h.r.fr hf (ot_one h.blk (by decide)), by rw [h1]; exact h.fr.ot hf (ot_one h.blk (by decide)), by rw [h1]; exact h.iv, by rw [h2]; exact h.q.fr hf (ot_one h.blk (by decide)), h3, h4, h5, h.ge⟩
theorem ShAt.cnt {W : World} {M S : Nat} {fl : Nat → FlowE} {n c c' : Nat} {m : ShM} {s : SS} (h : ShAt W M S fl n c m s) (hc : c ≤ c') : ShAt W M S fl n c' m s :=
  ⟨h.blk, h.r, h.fr, h.iv, ⟨h.q.qs, h.q.qd, h.q.qt, h.q.ld, h.q.inj, fun k hk => by have := h.q.dr k hk; omega, h.q.ge⟩, h.tk, h.bd, by have := h.nm; omega, h.ge⟩
/-- the scheduler's pick -/
theorem ShAt.pick {W W' : World} {M S : Nat} {fl : Nat → FlowE} {n c : Nat} {m : ShM} {s : SS} {f' : FS} (h : ShAt W M S fl n c m s) (hp : PkP M m.g m.fo m.ft n m.c1 (gI (wL fl n)) (alF fl n) f' W W') (hi : Inv n f') : ∃ ft' c', ShAt W' M S fl n c { m with ft := ft', c2 := c' } ⟨f', s.q, s.tok, s.bud, s.num⟩ := by
  obtain ⟨ft', c', hf, hr, _⟩ := hp.ex
  obtain ⟨cf, hcf, _⟩ := h.fr.fl
  obtain ⟨ct, hct⟩ := blk_row h.fr.tg
  have ho : ∀ l : List TypeId, 101 ∉ l → 112 ∉ l → 129 ∉ l → OT W [m.g, m.fo, m.ft] l := fun l h1 h2 h3 => ot_cons h.fr.blk h1 (ot_cons hcf h2 (ot_one hct h3))
  exact ⟨ft', c', (blk_ot h.blk hr (ho [64] (by decide) (by decide) (by decide)) (by simp)).trans h.blk, h.r.fr hr (ho _ (by decide) (by decide) (by decide)), hf, hi, h.q.fr hr (ho _ (by decide) (by decide) (by decide)), h.tk, h.bd, h.nm, h.ge⟩
/-- one queue changed -/
theorem ShAt.queue {W W' : World} {M S : Nat} {fl : Nat → FlowE} {n c : Nat} {m : ShM} {s : SS} (h : ShAt W M S fl n c m s) {k : Nat} (hk : k < n) {f' : Nat} {by' d' : Int} {E' : Nat → PkE} {l' : List PD} (hr : Fr [m.D k, m.R k] W W') (hq : FqIn W' (m.D k) (m.R k) 0 (fl k).r.toNat f' l'.length by' d' E') (hby : by' = sumZ l') (hd : l' = qlE E' l'.length) (ht : ∀ p ∈ l', p.t = (fl k).t ∧ (0 ≤ p.c ∧ p.c ≤ 255) ∧ p.n ≤ 1492) (hl : ∀ j, j < l'.length → 0 < (E' j).n → ∃ cs, Blk W' (E' j).b cs 5) (hdr : 0 ≤ d' ∧ d' ≤ c) : ShAt W' M S fl n c { m with f := upf m.f k f', dr := upf m.dr k d', E := upf m.E k E' } ⟨s.fs, upf s.q k l', s.tok, s.bud, s.num⟩ := by
  subst hby
  obtain ⟨cr, hcr⟩ := (h.q.qs k hk).rblk
  have ho : ∀ l : List TypeId, 91 ∉ l → 53 ∉ l → OT W [m.D k, m.R k] l := fun l h1 h2 => ot_cons (h.q.qs k hk).own h1 (ot_one hcr h2)
  refine ⟨(blk_ot h.blk hr (ho [64] (by decide) (by decide)) (by simp)).trans h.blk, h.r.fr hr (ho _ (by decide) (by decide)), h.fr.ot hr (ho _ (by decide) (by decide)), h.iv, ⟨fun i hi => ?_, fun i hi => ?_, fun i hi => ?_, fun i hi => ?_, h.q.inj, fun i hi => ?_, h.q.ge⟩, h.tk, h.bd, h.nm, h.ge⟩
  · by_cases e : i = k
    · subst e
      simp only [upf_at]
      exact hq
    · simp only [upf_ne _ _ e]
      have h1 := h.q.qs i hi
      obtain ⟨ci, hci⟩ := h1.rblk
      obtain ⟨n1, n2⟩ := h.q.inj i k hi hk e
      have t1 : m.D i ≠ m.R k := ne_ty h1.own hcr (by decide)
      have t2 : m.R i ≠ m.D k := ne_ty hci (h.q.qs k hk).own (by decide)
      refine h1.same hr.size (hr.block _ h1.own.lt (by simp [n1, t1])) (hr.block _ hci.lt (by simp [n2, t2])) fun j hj h0 => ?_
      obtain ⟨cs, hb⟩ := h.q.ld i hi j hj h0
      exact blk_ot hb hr (ho [5] (by decide) (by decide)) (by simp)
  · by_cases e : i = k
    · subst e
      simp only [upf_at]
      exact hd
    · simp only [upf_ne _ _ e]
      exact h.q.qd i hi
  · by_cases e : i = k
    · subst e
      simp only [upf_at]
      exact ht
    · simp only [upf_ne _ _ e]
      exact h.q.qt i hi
  · by_cases e : i = k
    · subst e
      simp only [upf_at]
      exact hl
    · simp only [upf_ne _ _ e]
      intro j hj h0
      obtain ⟨cs, hb⟩ := h.q.ld i hi j hj h0
      exact ⟨cs, (blk_ot hb hr (ho [5] (by decide) (by decide)) (by simp)).trans hb⟩
  · by_cases e : i = k
    · subst e
      simp only [upf_at]
      exact hdr
    · simp only [upf_ne _ _ e]
      exact h.q.dr i hi
def shTy : List TypeId := [64, 101, 112, 129, 91, 53]
/-- what a shaper's call leaves as it was -/
structure BS (M : Nat) (W W' : World) : Prop where
  b : Below M W W'
  t : TyL shTy W W'
theorem BS.refl (M : Nat) (W : World) : BS M W W := ⟨Below.refl _ _, TyL.refl _ _⟩
theorem BS.trans {M : Nat} {a b c : World} (h : BS M a b) (k : BS M b c) : BS M a c := ⟨h.b.trans k.b, h.t.trans k.t⟩
theorem BS.size {M : Nat} {a b : World} (h : BS M a b) : a.heap.size ≤ b.heap.size := h.b.size
theorem BS.new {M : Nat} {W W' : World} (h : Below W.heap.size W W') (hM : M ≤ W.heap.size) : BS M W W' := ⟨h.mono hM, TyL.of_below h⟩
theorem BS.fr {M : Nat} {W W' : World} {l : List Nat} (h : Fr l W W') (hM : M ≤ W.heap.size) (hl : ∀ q ∈ l, M ≤ q ∧ ∃ cs ty, Blk W q cs ty ∧ ty ∈ shTy) : BS M W W' := ⟨h.below hM (fun q hq => (hl q hq).1), TyL.of_fr h fun q hq => (hl q hq).2⟩
end Go.Proofs.Ytoodmocapagapaa
namespace Go.Proofs.Ytoodmocapagapaa
open Go.RowKit
set_option linter.unusedSimpArgs false
set_option linter.unusedVariables false

set_option maxRecDepth 100000 in
set_option maxHeartbeats 16000000 in
theorem size_any (num t c : Int) (la : Option Addr) (ln lc : Nat) (w : World) (hn : ln ≤ 9223372036854775000) :
    Calls Try.prog 46 #[.agg #[.int .i64 num, .int .i64 t, .int .i64 c, .slice la ln lc]] w fun e w' => e = .returned (.int .i64 (8 + (ln : Int))) ∧ Below w.heap.size w w' := by
  have ww : IntKind.i64.wrap (8 + (ln : Int)) = 8 + (ln : Int) := IntWalk.i64_in _ (by omega)
  go_enter Try.func46, Try.ntmps46
  go_wp2_with fail
  go_ret
  exact ⟨rfl, (Below.refl _ _).alloc (Nat.le_refl _) _⟩
set_option maxRecDepth 100000 in
set_option maxHeartbeats 8000000 in
theorem ten_any (n : Int) (w : World) : Calls Try.prog 25 #[.int .i64 n] w fun e w' => e = .returned (.bool (decide (1 ≤ n ∧ n ≤ 16))) ∧ w = w' := by
  by_cases h1 : 1 ≤ n
  · have d1 : decide ((1 : Int) ≤ n) = true := decide_eq_true h1
    by_cases h2 : n ≤ 16
    · have d2 : decide (n ≤ (16 : Int)) = true := decide_eq_true h2
      rw [decide_eq_true (⟨h1, h2⟩ : 1 ≤ n ∧ n ≤ 16)]
      clear h1 h2
      go_enter Try.func25, Try.ntmps25
      go_wp2_with fail
      go_ret
      exact ⟨rfl, rfl⟩
    · have d2 : decide (n ≤ (16 : Int)) = false := decide_eq_false h2
      rw [decide_eq_false (fun hh : 1 ≤ n ∧ n ≤ 16 => h2 hh.2)]
      clear h1 h2
      go_enter Try.func25, Try.ntmps25
      go_wp2_with fail
      go_ret
      exact ⟨rfl, rfl⟩
  · have d1 : decide ((1 : Int) ≤ n) = false := decide_eq_false h1
    rw [decide_eq_false (fun hh : 1 ≤ n ∧ n ≤ 16 => h1 hh.1)]
    clear h1
    go_enter Try.func25, Try.ntmps25
    go_wp2_with fail
    go_ret
    exact ⟨rfl, rfl⟩
theorem shC_tok (m : ShM) (n : Nat) (s : SS) (t : Nat) (ht : t ≤ 16) : (shC m n s)[3 + t]? = some (.int .i64 (s.tok t)) := by
  rcases (show t = 0 ∨ t = 1 ∨ t = 2 ∨ t = 3 ∨ t = 4 ∨ t = 5 ∨ t = 6 ∨ t = 7 ∨ t = 8 ∨ t = 9 ∨ t = 10 ∨ t = 11 ∨ t = 12 ∨ t = 13 ∨ t = 14 ∨ t = 15 ∨ t = 16 by omega) with rfl | rfl | rfl | rfl | rfl | rfl | rfl | rfl | rfl | rfl | rfl | rfl | rfl | rfl | rfl | rfl | rfl <;> rfl
theorem shC_setT (m : ShM) (n : Nat) (s : SS) (t : Nat) (ht : t ≤ 16) (v : Int) : (shC m n s).setIfInBounds (3 + t) (.int .i64 v) = shC m n ⟨s.fs, s.q, upf s.tok t v, s.bud, s.num⟩ := by
  rcases (show t = 0 ∨ t = 1 ∨ t = 2 ∨ t = 3 ∨ t = 4 ∨ t = 5 ∨ t = 6 ∨ t = 7 ∨ t = 8 ∨ t = 9 ∨ t = 10 ∨ t = 11 ∨ t = 12 ∨ t = 13 ∨ t = 14 ∨ t = 15 ∨ t = 16 by omega) with rfl | rfl | rfl | rfl | rfl | rfl | rfl | rfl | rfl | rfl | rfl | rfl | rfl | rfl | rfl | rfl | rfl <;> rfl
theorem shC_setB (m : ShM) (n : Nat) (s : SS) (v : Int) : (shC m n s).setIfInBounds 20 (.int .i64 v) = shC m n ⟨s.fs, s.q, s.tok, v, s.num⟩ := rfl
theorem shC_setN (m : ShM) (n : Nat) (s : SS) (v : Int) : (shC m n s).setIfInBounds 21 (.int .i64 v) = shC m n ⟨s.fs, s.q, s.tok, s.bud, v⟩ := rfl
structure ShC (W : World) (S n : Nat) (m : ShM) (s : SS) : Prop where
  c0 : W.cell? ⟨S, 0, none⟩ = some (.slice (some ⟨m.fb, 0, none⟩) n m.fc)
  c1 : W.cell? ⟨S, 1, none⟩ = some (.slice (some ⟨m.qb, 0, none⟩) n m.qc)
  c2 : W.cell? ⟨S, 2, none⟩ = some (.pointer (some ⟨m.g, 0, none⟩))
  ct : ∀ t, t ≤ 16 → W.cell? ⟨S, 3 + t, none⟩ = some (.int .i64 (s.tok t))
  cb : W.cell? ⟨S, 20, none⟩ = some (.int .i64 s.bud)
  cn : W.cell? ⟨S, 21, none⟩ = some (.int .i64 s.num)
  z : ∀ j, W.frozen? ⟨S, j, none⟩ = false
  l : S < W.heap.size
theorem ShAt.c {W : World} {M S : Nat} {fl : Nat → FlowE} {n c : Nat} {m : ShM} {s : SS} (h : ShAt W M S fl n c m s) : ShC W S n m s :=
  ⟨cell_at h.blk 0, cell_at h.blk 1, cell_at h.blk 2, fun t ht => (cell_at h.blk (3 + t)).trans (shC_tok m n s t ht), cell_at h.blk 20, cell_at h.blk 21, fun j => free_at h.blk j, h.blk.lt⟩
theorem tok_in {t : Int} (h : 1 ≤ t ∧ t ≤ 16) : ∃ k : Nat, t = (k : Int) ∧ 1 ≤ k ∧ k ≤ 16 := ⟨t.toNat, by omega, by omega, by omega⟩
def tokV (s : SS) (t : Int) : Int := if 1 ≤ t ∧ t ≤ 16 then s.tok t.toNat else 0
def PEQ : Prop := True
set_option maxRecDepth 100000 in
set_option maxHeartbeats 8000000 in
theorem tokens_any (W : World) (M S : Nat) (fl : Nat → FlowE) (n c : Nat) (m : ShM) (s : SS) (h : ShAt W M S fl n c m s) (t : Int) : Calls Try.prog 10 #[.pointer (some ⟨S, 0, none⟩), .int .i64 t] W fun e w' => e = .returned (.int .i64 (tokV s t)) ∧ W = w' := by
  have hnil : ∀ W, (binOp .eql 22 (.pointer (some ⟨S, 0, none⟩)) (.pointer none)).run Try.prog W = .ok (.bool false) W := fun _ => rfl
  have TN := Lib.hid (ten_any t W)
  by_cases hk : 1 ≤ t ∧ t ≤ 16
  · unfold tokV
    rw [if_pos hk]
    rw [decide_eq_true hk] at TN
    obtain ⟨k, rfl, k1, k16⟩ := tok_in hk
    have ck := h.c.ct k k16
    have hl := h.c.l
    have b1 : (k < 17) = True := eq_true (by omega)
    have b2 : ((k : Int) < 17) = True := eq_true (by omega)
    have b0 : ((0 : Int) ≤ (k : Int)) = True := eq_true (by omega)
    rw [Int.toNat_natCast]
    clear h hk k1 k16
    go_enter Try.func10, Try.ntmps10
    go_wp2_with fail
    go_at_call 25
    go_fit TN.out
    rintro e W1 ⟨rfl, rfl⟩
    go_wp2_with fail
    go_ret
    exact ⟨rfl, rfl⟩
  · unfold tokV
    rw [if_neg hk]
    rw [decide_eq_false hk] at TN
    clear h hk
    go_enter Try.func10, Try.ntmps10
    go_wp2_with fail
    go_at_call 25
    go_fit TN.out
    rintro e W1 ⟨rfl, rfl⟩
    go_wp2_with fail
    go_ret
    exact ⟨rfl, rfl⟩
set_option maxRecDepth 100000 in
set_option maxHeartbeats 8000000 in
theorem budget_any (W : World) (M S : Nat) (fl : Nat → FlowE) (n c : Nat) (m : ShM) (s : SS) (h : ShAt W M S fl n c m s) : Calls Try.prog 13 #[.pointer (some ⟨S, 0, none⟩)] W fun e w' => e = .returned (.int .i64 s.bud) ∧ W = w' := by
  have hnil : ∀ W, (binOp .eql 22 (.pointer (some ⟨S, 0, none⟩)) (.pointer none)).run Try.prog W = .ok (.bool false) W := fun _ => rfl
  have cb := h.c.cb
  have hl := h.c.l
  clear h
  go_enter Try.func13, Try.ntmps13
  go_wp2_with fail
  go_ret
  exact ⟨rfl, rfl⟩
def waitV (s : SS) (n : Nat) (k : Int) : Int := if 0 ≤ k ∧ k < (n : Int) then (((s.q k.toNat).length : Nat) : Int) else 0
theorem ShR.qc {W : World} {M : Nat} {fl : Nat → FlowE} {n fb fc qb qc : Nat} {D : Nat → Nat} (h : ShR W M fl n fb fc qb qc D) : n ≤ qc ∧ qc ≤ maxLen ∧ n ≤ fc ∧ fc ≤ maxLen := by
  obtain ⟨a', c', e2, h1, h2, _⟩ := h.qr.shape
  obtain ⟨a3, c3, e3, h3, h4, _⟩ := h.flr.shape
  injection e2 with e4 e5 e6
  injection e3 with e7 e8 e9
  subst e6 e9
  exact ⟨h1, h2, h3, h4⟩
theorem ShR.qat {W : World} {M : Nat} {fl : Nat → FlowE} {n fb fc qb qc : Nat} {D : Nat → Nat} (h : ShR W M fl n fb fc qb qc D) {k : Nat} (hk : k < n) : W.cell? ⟨qb, k, none⟩ = some (.pointer (some ⟨D k, 0, none⟩)) ∧ qb < W.heap.size := by
  obtain ⟨g, e, hc, _⟩ := h.qr.cell k (by omega)
  obtain rfl := Option.some.inj e
  exact ⟨hc.trans (qpL_at D hk), h.qr.lt⟩
set_option maxRecDepth 100000 in
set_option maxHeartbeats 8000000 in
theorem waiting_any (W : World) (M S : Nat) (fl : Nat → FlowE) (n c : Nat) (m : ShM) (s : SS) (h : ShAt W M S fl n c m s) (t : Int) : Calls Try.prog 11 #[.pointer (some ⟨S, 0, none⟩), .int .i64 t] W fun e w' => e = .returned (.int .i64 (waitV s n t)) ∧ W = w' := by
  have hnil : ∀ W, (binOp .eql 22 (.pointer (some ⟨S, 0, none⟩)) (.pointer none)).run Try.prog W = .ok (.bool false) W := fun _ => rfl
  have c1 := h.c.c1
  have hl := h.c.l
  unfold waitV
  by_cases h0 : 0 ≤ t
  · have d0 : decide (t < 0) = false := decide_eq_false (by omega)
    by_cases h1 : t < (n : Int)
    · rw [if_pos ⟨h0, h1⟩]
      obtain ⟨k, rfl⟩ : ∃ k : Nat, t = (k : Int) := ⟨t.toNat, by omega⟩
      have hk : k < n := by omega
      have d1 : decide (n ≤ k) = false := decide_eq_false (by omega)
      have LN := Lib.hid (flen_any _ _ _ _ _ _ _ _ _ W (h.q.qs k hk))
      obtain ⟨cq, ql⟩ := h.r.qat hk
      have b1 : (k < n) = True := eq_true hk
      have b2 : ((k : Int) < (n : Int)) = True := eq_true (by omega)
      have b0 : ((0 : Int) ≤ (k : Int)) = True := eq_true (by omega)
      rw [Int.toNat_natCast]
      clear h h0 h1 hk
      go_enter Try.func11, Try.ntmps11
      go_wp2_with fail
      go_fit LN.out
      rintro e W1 ⟨rfl, rfl⟩
      go_wp2_with fail
      go_ret
      exact ⟨rfl, rfl⟩
    · rw [if_neg (fun hh => h1 hh.2)]
      have d1 : decide ((n : Int) ≤ t) = true := decide_eq_true (by omega)
      clear h h0 h1
      go_enter Try.func11, Try.ntmps11
      go_wp2_with fail
      go_ret
      exact ⟨rfl, rfl⟩
  · rw [if_neg (fun hh => h0 hh.1)]
    have d0 : decide (t < 0) = true := decide_eq_true (by omega)
    clear h h0
    go_enter Try.func11, Try.ntmps11
    go_wp2_with fail
    go_ret
    exact ⟨rfl, rfl⟩
end Go.Proofs.Ytoodmocapagapaa
namespace Go.Proofs.Ytoodmocapagapaa
open Go.RowKit
set_option linter.unusedSimpArgs false
set_option linter.unusedVariables false

def okFill (t b : Int) : Prop := (1 ≤ t ∧ t ≤ 16) ∧ 0 ≤ b ∧ b ≤ 1000000
instance (t b : Int) : Decidable (okFill t b) := by unfold okFill; exact inferInstance
def fillE (t b : Int) : Int := if okFill t b then 0 else 2
def fillS (s : SS) (t b : Int) : SS := if okFill t b then ⟨s.fs, s.q, upf s.tok t.toNat (min (s.tok t.toNat + b) 1099511627776), s.bud, s.num⟩ else s
def dropE (t : Int) : Int := if 1 ≤ t ∧ t ≤ 16 then 0 else 2
def dropS (s : SS) (t : Int) : SS := if 1 ≤ t ∧ t ≤ 16 then ⟨s.fs, s.q, upf s.tok t.toNat 0, s.bud, s.num⟩ else s
theorem upf_bd {f : Nat → Int} {k : Nat} {x lo hi : Int} (h : ∀ t, lo ≤ f t ∧ f t ≤ hi) (hx : lo ≤ x ∧ x ≤ hi) : ∀ t, lo ≤ upf f k x t ∧ upf f k x t ≤ hi := fun t => by
  by_cases e : t = k
  · subst e; rw [upf_at]; exact hx
  · rw [upf_ne _ _ e]; exact h t
theorem ShAt.tokset {W W' : World} {M S : Nat} {fl : Nat → FlowE} {n c : Nat} {m : ShM} {s : SS} (h : ShAt W M S fl n c m s) {t : Nat} (ht : t ≤ 16) {v : Int} (hv : 0 ≤ v ∧ v ≤ 1099511627776) (hW : W' = W.setCell ⟨S, 3 + t, none⟩ (.int .i64 v)) : ShAt W' M S fl n c m ⟨s.fs, s.q, upf s.tok t v, s.bud, s.num⟩ ∧ Fr [S] W W' := by
  have hf : Fr [S] W W' := by rw [hW]; exact (Fr.refl _ _).setCell _ (.inl (by simp)) _
  refine ⟨h.set hf ?_ rfl rfl (upf_bd h.tk hv) h.bd h.nm, hf⟩
  rw [hW, ← shC_setT m n s t ht v]
  exact h.blk.set _ _
set_option maxRecDepth 100000 in
set_option maxHeartbeats 8000000 in
theorem fill_any (W : World) (M S : Nat) (fl : Nat → FlowE) (n c : Nat) (m : ShM) (s : SS) (h : ShAt W M S fl n c m s) (t b : Int) : Calls Try.prog 9 #[.pointer (some ⟨S, 0, none⟩), .int .i64 t, .int .i64 b] W fun e w' => e = .returned (.int .i64 (fillE t b)) ∧ ShAt w' M S fl n c m (fillS s t b) ∧ Fr [S] W w' := by
  have hnil : ∀ W, (binOp .eql 22 (.pointer (some ⟨S, 0, none⟩)) (.pointer none)).run Try.prog W = .ok (.bool false) W := fun _ => rfl
  have TN := Lib.hid (ten_any t W)
  have HS := Lib.hid h
  unfold fillE fillS
  by_cases hk : 1 ≤ t ∧ t ≤ 16
  · rw [decide_eq_true hk] at TN
    by_cases hb : 0 ≤ b ∧ b ≤ 1000000
    · have hok : okFill t b := ⟨hk, hb⟩
      simp only [if_pos hok]
      clear hok
      obtain ⟨k, rfl, k1, k16⟩ := tok_in hk
      have d1 : decide (b < 0) = false := decide_eq_false (by omega)
      have d2 : decide ((1000000 : Int) < b) = false := decide_eq_false (by omega)
      have hc := h.c
      have ck := hc.ct k k16
      have ck2 : W.drew.cell? ⟨S, 3 + k, none⟩ = some (.int .i64 (s.tok k)) := ck
      have hl := hc.l
      have hz := hc.z
      have tkb := h.tk k
      have w1 : IntKind.i64.wrap (s.tok k + b) = s.tok k + b := IntWalk.i64_in _ (by omega)
      have b1 : (k < 17) = True := eq_true (by omega)
      have b2 : ((k : Int) < 17) = True := eq_true (by omega)
      have b0 : ((0 : Int) ≤ (k : Int)) = True := eq_true (by omega)
      rw [Int.toNat_natCast]
      obtain ⟨v, hv⟩ : ∃ v, v = min (s.tok k + b) 1099511627776 := ⟨_, rfl⟩
      rw [← hv]
      obtain ⟨W2, hW2⟩ : ∃ X, X = (W.setCell ⟨S, 3 + k, none⟩ (.int .i64 v)).drew := ⟨_, rfl⟩
      have h2 := h.tokset k16 (v := v) (by omega) rfl
      have HH : Hid (ShAt W2 M S fl n c m ⟨s.fs, s.q, upf s.tok k v, s.bud, s.num⟩) := Lib.hid (by rw [hW2]; exact h2.1.step ((Below.refl _ _).drew))
      have HF : Hid (Fr [S] W W2) := Lib.hid (by rw [hW2]; exact h2.2.drew)
      have HV := Lib.hid hv
      clear h h2 hc hk hb k1 k16
      go_enter Try.func9, Try.ntmps9
      go_wp2_with fail
      go_at_call 25
      go_fit TN.out
      rintro e W1 ⟨rfl, rfl⟩
      go_upto_region 5 with fail
      go_region
      rw [← hv, ← hW2]
      go_wp2_with fail
      go_ret
      exact ⟨rfl, HH.out, HF.out⟩
    · have hok : ¬ okFill t b := fun hh => hb hh.2
      simp only [if_neg hok]
      clear hok
      by_cases hb0 : 0 ≤ b
      · have d1 : decide (b < 0) = false := decide_eq_false (by omega)
        have d2 : decide ((1000000 : Int) < b) = true := decide_eq_true (by omega)
        clear h hk hb hb0
        go_enter Try.func9, Try.ntmps9
        go_wp2_with fail
        go_at_call 25
        go_fit TN.out
        rintro e W1 ⟨rfl, rfl⟩
        go_wp2_with fail
        go_ret
        exact ⟨rfl, HS.out, Fr.refl _ _⟩
      · have d1 : decide (b < 0) = true := decide_eq_true (by omega)
        clear h hk hb hb0
        go_enter Try.func9, Try.ntmps9
        go_wp2_with fail
        go_at_call 25
        go_fit TN.out
        rintro e W1 ⟨rfl, rfl⟩
        go_wp2_with fail
        go_ret
        exact ⟨rfl, HS.out, Fr.refl _ _⟩
  · rw [decide_eq_false hk] at TN
    have hok : ¬ okFill t b := fun hh => hk hh.1
    simp only [if_neg hok]
    clear hok
    clear h hk
    go_enter Try.func9, Try.ntmps9
    go_wp2_with fail
    go_at_call 25
    go_fit TN.out
    rintro e W1 ⟨rfl, rfl⟩
    go_wp2_with fail
    go_ret
    exact ⟨rfl, HS.out, Fr.refl _ _⟩
set_option maxRecDepth 100000 in
set_option maxHeartbeats 8000000 in
theorem drop_any (W : World) (M S : Nat) (fl : Nat → FlowE) (n c : Nat) (m : ShM) (s : SS) (h : ShAt W M S fl n c m s) (t : Int) : Calls Try.prog 7 #[.pointer (some ⟨S, 0, none⟩), .int .i64 t] W fun e w' => e = .returned (.tuple #[.int .i64 (tokV s t), .int .i64 (dropE t)]) ∧ ShAt w' M S fl n c m (dropS s t) ∧ Fr [S] W w' := by
  have hnil : ∀ W, (binOp .eql 22 (.pointer (some ⟨S, 0, none⟩)) (.pointer none)).run Try.prog W = .ok (.bool false) W := fun _ => rfl
  have TN := Lib.hid (ten_any t W)
  have HS := Lib.hid h
  unfold dropE dropS tokV
  by_cases hk : 1 ≤ t ∧ t ≤ 16
  · rw [decide_eq_true hk] at TN
    simp only [if_pos hk]
    obtain ⟨k, rfl, k1, k16⟩ := tok_in hk
    have hc := h.c
    have ck := hc.ct k k16
    have hl := hc.l
    have hz := hc.z
    have b1 : (k < 17) = True := eq_true (by omega)
    have b2 : ((k : Int) < 17) = True := eq_true (by omega)
    have b0 : ((0 : Int) ≤ (k : Int)) = True := eq_true (by omega)
    rw [Int.toNat_natCast]
    obtain ⟨W2, hW2⟩ : ∃ X, X = W.setCell ⟨S, 3 + k, none⟩ (.int .i64 0) := ⟨_, rfl⟩
    have h2 := h.tokset k16 (v := 0) (by omega) hW2
    have HH := Lib.hid h2.1
    have HF := Lib.hid h2.2
    clear h h2 hc hk k1 k16
    go_enter Try.func7, Try.ntmps7
    go_wp2_with fail
    go_at_call 25
    go_fit TN.out
    rintro e W1 ⟨rfl, rfl⟩
    go_upto_region 7 with fail
    rw [← hW2]
    go_wp2_with fail
    go_ret2
    exact ⟨rfl, HH.out, HF.out⟩
  · rw [decide_eq_false hk] at TN
    simp only [if_neg hk]
    clear h hk
    go_enter Try.func7, Try.ntmps7
    go_wp2_with fail
    go_at_call 25
    go_fit TN.out
    rintro e W1 ⟨rfl, rfl⟩
    go_wp2_with fail
    go_ret2
    exact ⟨rfl, HS.out, Fr.refl _ _⟩
end Go.Proofs.Ytoodmocapagapaa
namespace Go.Proofs.Ytoodmocapagapaa
open Go.RowKit
set_option linter.unusedSimpArgs false
set_option linter.unusedVariables false

def wantF (fl : Nat → FlowE) (s : SS) (t : Int) : Nat → Int
  | 0 => 0
  | k + 1 => wantF fl s t k + (if (fl k).t = t then sumZ (s.q k) else 0)
theorem ShQ.sz {W : World} {M : Nat} {fl : Nat → FlowE} {n c : Nat} {D R f : Nat → Nat} {dr : Nat → Int} {E : Nat → Nat → PkE} {q : Nat → List PD} (h : ShQ W M fl n c D R f dr E q) {k : Nat} (hk : k < n) : (0 ≤ sumZ (q k) ∧ sumZ (q k) ≤ 96000) ∧ (q k).length ≤ 64 := by
  have h1 := sumZ_bd (q k) fun p hp => (h.qt k hk p hp).2.2
  have h2 := (h.qs k hk).nl
  have h3 := (h.qs k hk).r64
  omega
theorem want_bd {W : World} {M : Nat} {fl : Nat → FlowE} {n c : Nat} {D R f : Nat → Nat} {dr : Nat → Int} {E : Nat → Nat → PkE} {s : SS} (h : ShQ W M fl n c D R f dr E s.q) (t : Int) : ∀ k, k ≤ n → 0 ≤ wantF fl s t k ∧ wantF fl s t k ≤ 96000 * (k : Int)
  | 0, _ => by simp [wantF]
  | k + 1, hk => by
    have h1 := want_bd h t k (by omega)
    have h2 := h.sz (by omega : k < n)
    rw [wantF]
    split <;> omega
theorem ShR.fat {W : World} {M : Nat} {fl : Nat → FlowE} {n fb fc qb qc : Nat} {D : Nat → Nat} (h : ShR W M fl n fb fc qb qc D) {k : Nat} (hk : k < n) : W.cell? ⟨fb, k * 3, none⟩ = some (.int .i64 (fl k).t) ∧ W.cell? ⟨fb, k * 3 + 1, none⟩ = some (.int .i64 (fl k).w) ∧ W.cell? ⟨fb, k * 3 + 2, none⟩ = some (.int .i64 (fl k).r) ∧ fb < W.heap.size := by
  have hc : ∀ j, j < 3 → W.cell? ⟨fb, k * 3 + j, none⟩ = (fl k).cells[j]? := fun j hj => by
    obtain ⟨g, e, h1, _⟩ := h.flr.cell (k * 3 + j) (by omega)
    obtain rfl := Option.some.inj e
    exact h1.trans (flowL_at fl n k j hk hj)
  exact ⟨hc 0 (by omega), hc 1 (by omega), hc 2 (by omega), h.flr.lt⟩
set_option maxRecDepth 100000 in
set_option maxHeartbeats 8000000 in
theorem wants_any (W : World) (M S : Nat) (fl : Nat → FlowE) (n c : Nat) (m : ShM) (s : SS) (h : ShAt W M S fl n c m s) (hn : n ≤ 8) (t : Int) : Calls Try.prog 12 #[.pointer (some ⟨S, 0, none⟩), .int .i64 t] W fun e w' => e = .returned (.int .i64 (wantF fl s t n)) ∧ Below W.heap.size W w' := by
  have hnil : ∀ W, (binOp .neq 22 (.pointer (some ⟨S, 0, none⟩)) (.pointer none)).run Try.prog W = .ok (.bool true) W := fun _ => rfl
  have HS := Lib.hid h
  have HN := Lib.hid hn
  have c0 := h.c.c0
  have hl := h.c.l
  clear h hn
  go_enter Try.func12, Try.ntmps12
  go_wp2_with fail
  go_loopw [5, 6, 7, 15] (fun v5 _ _ vi wr => ∃ k : Nat, k ≤ n ∧ vi = .int .i64 k ∧ v5 = .int .i64 (wantF fl s t k) ∧ Below W.heap.size W wr) (fun _ _ _ vi _ => n - (intOf vi).toNat)
  case atStart => exact ⟨0, Nat.zero_le _, rfl, rfl, Below.refl _ _⟩
  case round =>
    clear c0 hl
    obtain ⟨k, hk, rfl, rfl, hB⟩ := hrel
    have HB := Lib.hid hB
    by_cases hlt : k < n
    rotate_left
    · obtain rfl : k = n := by omega
      clear hB hlt hk
      go_wp2_with fail
      try rw [Exit.noGoto_ret]
      go_ret
      exact ⟨rfl, HB.out⟩
    have h1 := HS.out.step hB
    obtain ⟨f0, f1, f2, fl_⟩ := h1.r.fat hlt
    have HLT := Lib.hid hlt
    have b1 : (k < n) = True := eq_true hlt
    have b2 : ((k : Int) < (n : Int)) = True := eq_true (by omega)
    have b0 : ((0 : Int) ≤ (k : Int)) = True := eq_true (by omega)
    have wk : IntKind.i64.wrap ((k : Int) + 1) = (k : Int) + 1 := IntWalk.i64_in _ (by have := HN.out; omega)
    obtain ⟨N, hN⟩ : ∃ N, N = wr.heap.size := ⟨_, rfl⟩
    obtain ⟨W1, hW1⟩ : ∃ X, X = wr.alloc (.cells #[.int .i64 (fl k).t, .int .i64 (fl k).w, .int .i64 (fl k).r] 51) := ⟨_, rfl⟩
    have hB1 : Below wr.heap.size wr W1 := by rw [hW1]; exact alloc_b _ _
    have hp : Blk W1 N #[.int .i64 (fl k).t, .int .i64 (fl k).w, .int .i64 (fl k).r] 51 := by rw [hW1, hN]; exact blk_new _ _ _
    have HB1 := Lib.hid (hB.trans (hB1.mono hB.size))
    have h2 := h1.step hB1
    have HK := Lib.hid hk
    have p0 : W1.cell? ⟨N, 0, none⟩ = some (.int .i64 (fl k).t) := cell_at hp 0
    have pl := hp.lt
    have BY := Lib.hid (fbytes_any _ _ _ _ _ _ _ _ _ W1 (h2.q.qs k hlt))
    obtain ⟨cq, ql⟩ := h2.r.qat hlt
    have hc := h2.c
    have c1 := hc.c1
    have cl := hc.l
    have w2 : IntKind.i64.wrap (wantF fl s t k + sumZ (s.q k)) = wantF fl s t k + sumZ (s.q k) := IntWalk.i64_in _ (by have := want_bd h2.q t k hk; have := h2.q.sz hlt; have := HN.out; omega)
    by_cases ht : (fl k).t = t
    · have d1 : ((fl k).t == t) = true := by simpa using ht
      have HW : Hid (wantF fl s t (k + 1) = wantF fl s t k + sumZ (s.q k)) := Lib.hid (by rw [wantF, if_pos ht])
      clear h1 h2 hc hB hB1 hp ht hk hlt
      go_upto_region 6 with fail
      rw [← hN, ← hW1]
      clear hN hW1 f0 f1 f2 fl_
      go_wp2_with fail
      go_fit BY.out
      rintro e W2 ⟨rfl, rfl⟩
      go_wp2_with fail
      go_roundw
      case rel => exact ⟨k + 1, HLT.out, by go_num, by rw [HW.out], HB1.out⟩
      case measure => (have h8 := HLT.out; first | (simp [intOf]; done) | (simp [intOf]; omega))
    · have d1 : ((fl k).t == t) = false := by simpa using ht
      have HW : Hid (wantF fl s t (k + 1) = wantF fl s t k) := Lib.hid (by rw [wantF, if_neg ht, Int.add_zero])
      clear h1 h2 hc hB hB1 hp ht hk hlt
      go_upto_region 6 with fail
      rw [← hN, ← hW1]
      clear hN hW1 f0 f1 f2 fl_
      go_wp2_with fail
      go_roundw
      case rel => exact ⟨k + 1, HLT.out, by go_num, by rw [HW.out], HB1.out⟩
      case measure => (have h8 := HLT.out; first | (simp [intOf]; done) | (simp [intOf]; omega))
end Go.Proofs.Ytoodmocapagapaa
namespace Go.Proofs.Ytoodmocapagapaa
open Go.RowKit
set_option linter.unusedSimpArgs false
set_option linter.unusedVariables false

theorem sndK_nil {fl : Nat → FlowE} {s : SS} {k : Nat} (h : s.q k = []) : sndK fl s k = 0 := by unfold sndK; rw [h]
theorem sndK_cons {fl : Nat → FlowE} {s : SS} {k : Nat} {p : PD} {r : List PD} (h : s.q k = p :: r) : sndK fl s k = if p.sz ≤ s.tok (fl k).t.toNat then p.sz else 0 := by unfold sndK; rw [h]
theorem ShQ.first {W : World} {M : Nat} {fl : Nat → FlowE} {n c : Nat} {D R f : Nat → Nat} {dr : Nat → Int} {E : Nat → Nat → PkE} {q : Nat → List PD} (h : ShQ W M fl n c D R f dr E q) {k : Nat} (hk : k < n) {p : PD} {r : List PD} (hq : q k = p :: r) : (E k 0).d = p ∧ r = qlE (fun j => E k (j + 1)) r.length ∧ (q k).length = r.length + 1 := by
  have h1 := h.qd k hk
  have h2 : (q k).length = r.length + 1 := by rw [hq]; rfl
  rw [h2, qlE_pop, hq] at h1
  injection h1 with e1 e2
  exact ⟨e1.symm, e2, h2⟩
set_option maxRecDepth 100000 in
set_option maxHeartbeats 8000000 in
theorem sendable_any (W : World) (M S : Nat) (fl : Nat → FlowE) (n c : Nat) (m : ShM) (s : SS) (h : ShAt W M S fl n c m s) (hf : FlOk fl n) (k : Nat) (hk : k < n) : Calls Try.prog 27 #[.pointer (some ⟨S, 0, none⟩), .int .i64 (k : Nat)] W fun e w' => e = .returned (.int .i64 (sndK fl s k)) ∧ Below W.heap.size W w' := by
  have HS := Lib.hid h
  have HK := Lib.hid hk
  have hc := h.c
  have c1 := hc.c1
  have cl := hc.l
  obtain ⟨cq, ql⟩ := h.r.qat hk
  have b1 : (k < n) = True := eq_true hk
  have b2 : ((k : Int) < (n : Int)) = True := eq_true (by omega)
  have b0 : ((0 : Int) ≤ (k : Int)) = True := eq_true (by omega)
  obtain ⟨T, hT, T1, T16⟩ := tok_in (hf.t k hk)
  have HT := Lib.hid (show (fl k).t = (T : Int) ∧ T ≤ 16 from ⟨hT, T16⟩)
  cases hq : s.q k with
  | nil =>
    have h0 := h.q.qs k hk
    rw [hq] at h0
    have HD := Lib.hid (zhead_any _ _ _ _ _ _ _ _ W h0)
    rw [sndK_nil hq]
    clear h hc hk h0 hq hT T1 T16 hf
    go_enter Try.func27, Try.ntmps27
    go_wp2_with fail
    go_fit HD.out
    rintro e W1 ⟨rfl, hB1⟩
    obtain ⟨N, hN⟩ : ∃ N, N = W1.heap.size := ⟨_, rfl⟩
    obtain ⟨W2, hW2⟩ : ∃ X, X = W1.alloc (.cells #[.int .i64 0, .int .i64 0, .int .i64 0, .slice none 0 0] 53) := ⟨_, rfl⟩
    have hB2 : Below W1.heap.size W1 W2 := by rw [hW2]; exact alloc_b _ _
    have hp : Blk W2 N #[.int .i64 0, .int .i64 0, .int .i64 0, .slice none 0 0] 53 := by rw [hW2, hN]; exact blk_new _ _ _
    have HB2 := Lib.hid (hB1.trans (hB2.mono hB1.size))
    have p0 : W2.cell? ⟨N, 0, none⟩ = some (.int .i64 0) := cell_at hp 0
    have p1 : W2.cell? ⟨N, 1, none⟩ = some (.int .i64 0) := cell_at hp 1
    have p2 : W2.cell? ⟨N, 2, none⟩ = some (.int .i64 0) := cell_at hp 2
    have p3 : W2.cell? ⟨N, 3, none⟩ = some (.slice none 0 0) := cell_at hp 3
    have pl := hp.lt
    have SZ := Lib.hid (size_any 0 0 0 none 0 0 W2 (by omega))
    clear hB1 hB2 hp HD c1 cl cq ql
    go_upto_region 2 with fail
    rw [← hN, ← hW2]
    clear hN hW2
    go_wp2_with fail
    go_at_call 46
    go_fit SZ.out
    rintro e W3 ⟨rfl, hB3⟩
    have HB3 := Lib.hid (HB2.out.trans (hB3.mono HB2.out.size))
    clear hB3 p0 p1 p2 p3 pl SZ HB2
    go_wp2_with fail
    (refine wp_region_quiet_lit (by kernel_rfl) (by kernel_rfl) ?_; (repeat (first | go_big_quiet_step (fail) | (refine BigFrame.wpQuiet_skip (by rfl) ?_; try simp only [Act.put, List.setIfInBounds_toArray, List.set_cons_zero, List.set_cons_succ]))); refine wpQuiet_nil ?_; intro _ hw9; obtain ⟨nq, hw8⟩ := hw9; subst hw8)
    go_wp2_with fail
    go_ret
    exact ⟨rfl, HB3.out.trans ((dN _ _).mono HB3.out.size)⟩
  | cons p r =>
    have h0 := h.q.qs k hk
    have HD := Lib.hid (fhead_any _ _ _ _ _ _ _ _ _ W h0 (by rw [hq]; simp))
    obtain ⟨e1, _, _⟩ := h.q.first hk hq
    have hpn : p.n ≤ 1492 := (h.q.qt k hk p (by rw [hq]; simp)).2.2
    have HPN := Lib.hid hpn
    have en : (m.E k 0).n = p.n := by rw [← e1]; rfl
    rw [en] at HD
    have hv := sndK_cons (fl := fl) hq
    rw [hT, Int.toNat_natCast] at hv
    have HV := Lib.hid hv
    clear h hc hk h0 hq hT T1 T16 hf e1 hv en hpn
    go_enter Try.func27, Try.ntmps27
    go_wp2_with fail
    go_fit HD.out
    rintro e W1 ⟨a', c', b', rfl, _, _, hB1⟩
    obtain ⟨N, hN⟩ : ∃ N, N = W1.heap.size := ⟨_, rfl⟩
    obtain ⟨x0, hx0⟩ : ∃ x, x = (m.E k 0).num := ⟨_, rfl⟩
    obtain ⟨x1, hx1⟩ : ∃ x, x = (m.E k 0).t := ⟨_, rfl⟩
    obtain ⟨x2, hx2⟩ : ∃ x, x = (m.E k 0).c := ⟨_, rfl⟩
    rw [← hx0, ← hx1, ← hx2]
    clear hx0 hx1 hx2
    obtain ⟨W2, hW2⟩ : ∃ X, X = W1.alloc (.cells #[.int .i64 x0, .int .i64 x1, .int .i64 x2, .slice a' p.n c'] 53) := ⟨_, rfl⟩
    have hB2 : Below W1.heap.size W1 W2 := by rw [hW2]; exact alloc_b _ _
    have hp : Blk W2 N #[.int .i64 x0, .int .i64 x1, .int .i64 x2, .slice a' p.n c'] 53 := by rw [hW2, hN]; exact blk_new _ _ _
    have HB2 := Lib.hid (hB1.trans (hB2.mono hB1.size))
    have p0 : W2.cell? ⟨N, 0, none⟩ = some (.int .i64 x0) := cell_at hp 0
    have p1 : W2.cell? ⟨N, 1, none⟩ = some (.int .i64 x1) := cell_at hp 1
    have p2 : W2.cell? ⟨N, 2, none⟩ = some (.int .i64 x2) := cell_at hp 2
    have p3 : W2.cell? ⟨N, 3, none⟩ = some (.slice a' p.n c') := cell_at hp 3
    have pl := hp.lt
    have SZ := Lib.hid (size_any x0 x1 x2 a' p.n c' W2 (by have := HPN.out; omega))
    clear hB1 hB2 hp HD c1 cl cq ql
    go_upto_region 2 with fail
    rw [← hN, ← hW2]
    clear hN hW2
    go_wp2_with fail
    go_at_call 46
    go_fit SZ.out
    rintro e W3 ⟨rfl, hB3⟩
    have HB3 := Lib.hid (HB2.out.trans (hB3.mono HB2.out.size))
    have h3 := HS.out.step HB3.out
    have hc := h3.c
    have c0 := hc.c0
    have ct := hc.ct T HT.out.2
    have cl := hc.l
    obtain ⟨f0, _, _, fb⟩ := h3.r.fat HK.out
    rw [HT.out.1] at f0
    have t1 : (T < 17) = True := eq_true (by have := HT.out.2; omega)
    have t2 : ((T : Int) < 17) = True := eq_true (by have := HT.out.2; omega)
    have t0 : ((0 : Int) ≤ (T : Int)) = True := eq_true (by omega)
    clear hB3 p0 p1 p2 p3 pl SZ HB2 h3 hc
    by_cases hle : p.sz ≤ s.tok T
    · have d1 : decide (8 + (p.n : Int) ≤ s.tok T) = true := decide_eq_true hle
      have HLE := Lib.hid hle
      clear hle
      go_wp2_with fail
      (refine wp_region_quiet_lit (by kernel_rfl) (by kernel_rfl) ?_; (repeat (first | go_big_quiet_step (fail) | (refine BigFrame.wpQuiet_skip (by rfl) ?_; try simp only [Act.put, List.setIfInBounds_toArray, List.set_cons_zero, List.set_cons_succ]))); refine wpQuiet_nil ?_; intro _ hw9; obtain ⟨nq, hw8⟩ := hw9; subst hw8)
      go_wp2_with fail
      go_ret
      exact ⟨by rw [HV.out, if_pos HLE.out]; rfl, HB3.out.trans ((dN _ _).mono HB3.out.size)⟩
    · have d1 : decide (8 + (p.n : Int) ≤ s.tok T) = false := decide_eq_false hle
      have HLE := Lib.hid hle
      clear hle
      go_wp2_with fail
      (refine wp_region_quiet_lit (by kernel_rfl) (by kernel_rfl) ?_; (repeat (first | go_big_quiet_step (fail) | (refine BigFrame.wpQuiet_skip (by rfl) ?_; try simp only [Act.put, List.setIfInBounds_toArray, List.set_cons_zero, List.set_cons_succ]))); refine wpQuiet_nil ?_; intro _ hw9; obtain ⟨nq, hw8⟩ := hw9; subst hw8)
      go_wp2_with fail
      go_ret
      exact ⟨by rw [HV.out, if_neg (show ¬ p.sz ≤ s.tok T by have := HLE.out; omega)]; rfl, HB3.out.trans ((dN _ _).mono HB3.out.size)⟩
end Go.Proofs.Ytoodmocapagapaa
namespace Go.Proofs.Ytoodmocapagapaa
open Go.RowKit
set_option linter.unusedSimpArgs false
set_option linter.unusedVariables false

set_option maxRecDepth 100000 in
set_option maxHeartbeats 8000000 in
theorem may1_any (W : World) (M S : Nat) (fl : Nat → FlowE) (n c : Nat) (m : ShM) (s : SS) (h : ShAt W M S fl n c m s) (hf : FlOk fl n) (B : Nat) (hb : Blk W B #[.pointer (some ⟨S, 0, none⟩)] 22) (k : Nat) (hk : k < n) : Calls Try.prog 26 #[.int .i64 (k : Nat), .pointer (some ⟨B, 0, none⟩)] W fun e w' => e = .returned (.int .i64 (sndK fl s k)) ∧ Below W.heap.size W w' := by
  have SN := Lib.hid (sendable_any W M S fl n c m s h hf k hk)
  have b0 : W.cell? ⟨B, 0, none⟩ = some (.pointer (some ⟨S, 0, none⟩)) := cell_at hb 0
  have bl := hb.lt
  clear h hf hb hk
  go_enter Try.func26, Try.ntmps26
  go_wp2_with fail
  go_at_call 27
  go_fit SN.out
  rintro e W1 ⟨rfl, hB1⟩
  have HB1 := Lib.hid hB1
  clear hB1
  go_wp2_with fail
  go_ret
  exact ⟨rfl, HB1.out⟩
set_option maxRecDepth 100000 in
set_option maxHeartbeats 8000000 in
theorem heads_any (W : World) (M S : Nat) (fl : Nat → FlowE) (n c : Nat) (m : ShM) (s : SS) (h : ShAt W M S fl n c m s) (hf : FlOk fl n) (B : Nat) (hb : Blk W B #[.pointer (some ⟨S, 0, none⟩)] 22) : Calls Try.prog 29 #[.int .i64 (n : Nat), .func (.func 26) #[] #[.pointer (some ⟨B, 0, none⟩)]] W fun e w' => ∃ HB, e = .returned (.slice (some ⟨HB, 0, none⟩) n n) ∧ HeAt w' HB n (sndK fl s) ∧ W.heap.size ≤ HB ∧ Below W.heap.size W w' := by
  have HS := Lib.hid h
  have HF := Lib.hid hf
  have HBL := Lib.hid hb
  have hmk := make_heads n hf.n1.2 W
  obtain ⟨HB, hHB⟩ : ∃ N, N = W.heap.size := ⟨_, rfl⟩
  obtain ⟨W4, hW4⟩ : ∃ X, X = W.alloc (.cells (madeCells (Value.agg #[.int .i64 0, .int .i64 0]).cells (n * 2)) 104) := ⟨_, rfl⟩
  rw [← hHB, ← hW4] at hmk
  have HB4 : Hid (Below W.heap.size W W4) := Lib.hid (by rw [hW4]; exact alloc_b _ _)
  have HHE := Lib.hid (show HeAt W4 HB n (fun _ => 0) by rw [hW4, hHB]; exact HeAt.new W n)
  have HHB : Hid (W.heap.size ≤ HB) := Lib.hid (by rw [hHB]; exact Nat.le_refl _)
  clear h hf hb hHB hW4
  go_enter Try.func29, Try.ntmps29
  go_wp2_with fail
  clear hmk
  go_loopw [6, 11] (fun _ i wr => ∃ j : Nat, j ≤ n ∧ i = .int .i64 j ∧ HeAt wr HB n (fun k => if k < j then sndK fl s k else 0) ∧ Below W.heap.size W wr) (fun _ i _ => n - (intOf i).toNat)
  case atStart => exact ⟨0, Nat.zero_le _, rfl, by simpa using HHE.out, HB4.out⟩
  case round =>
    clear HHE HB4
    obtain ⟨j, hj, rfl, hhe, hB⟩ := hrel
    have HHE := Lib.hid hhe
    have HBB := Lib.hid hB
    by_cases hlt : j < n
    rotate_left
    · obtain rfl : j = n := by omega
      have hmm : HeAt wr HB j (sndK fl s) := by
        obtain ⟨cs, hb, hc⟩ := hhe
        exact ⟨cs, hb, fun k hk => by have := hc k hk; rw [if_pos hk] at this; exact this⟩
      have HMM := Lib.hid hmm
      clear hhe hB hmm hlt hj
      go_wp2_with fail
      try rw [Exit.noGoto_ret]
      go_ret
      exact ⟨_, rfl, HMM.out, HHB.out, HBB.out⟩
    have HLT := Lib.hid hlt
    have h1 := HS.out.step hB
    have hb1 := HBL.out.step hB
    have MY := Lib.hid (may1_any wr M S fl n c m s h1 HF.out B hb1 j hlt)
    have b1 : (j < n) = True := eq_true hlt
    have b2 : ((j : Int) < (n : Int)) = True := eq_true (by omega)
    have b0 : ((0 : Int) ≤ (j : Int)) = True := eq_true (by omega)
    have wj : IntKind.i64.wrap ((j : Int) + 1) = (j : Int) + 1 := IntWalk.i64_in _ (by have := HF.out.n1; omega)
    clear hhe hB hj h1 hb1 hlt
    go_wp2_with fail
    go_at_call 26
    go_fit MY.out
    rintro e W2 ⟨rfl, hB2⟩
    have hhe2 := HHE.out.ty (TyL.of_below hB2 (l := [])) (by simp)
    have hz := hhe2.free
    have hl := hhe2.lt
    have hc0 := hhe2.cell HLT.out
    obtain ⟨W3, hW3⟩ : ∃ X, X = W2.setCell ⟨HB, j * 2, none⟩ (.int .i64 (sndK fl s j)) := ⟨_, rfl⟩
    obtain ⟨hhe3, hf3⟩ := hhe2.put HLT.out (sndK fl s j) hW3
    have HB2 := HBB.out.trans (hB2.mono HBB.out.size)
    have HB3 := Lib.hid (HB2.trans (hf3.below HB2.size (by simpa using HHB.out)))
    have HH3 := Lib.hid hhe3
    clear hB2 hhe2 hhe3 hf3 HB2 MY
    go_upto_region 6 with fail
    rw [← hW3]
    clear hW3 hz hl hc0
    go_wp2_with fail
    go_roundw
    case rel =>
      refine ⟨j + 1, HLT.out, by go_num, ?_, HB3.out⟩
      obtain ⟨cs, hb, hc⟩ := HH3.out
      refine ⟨cs, hb, fun k hk => ?_⟩
      have h1 := hc k hk
      by_cases hkj : k = j
      · subst hkj
        rw [upf_at] at h1
        rw [if_pos (by omega)]
        exact h1
      · rw [upf_ne _ _ hkj] at h1
        by_cases hkl : k < j
        · rw [if_pos hkl] at h1; rw [if_pos (by omega)]; exact h1
        · rw [if_neg hkl] at h1; rw [if_neg (by omega)]; exact h1
    case measure => (have h8 := HLT.out; first | (simp [intOf]; done) | (simp [intOf]; omega))
end Go.Proofs.Ytoodmocapagapaa
namespace Go.Proofs.Ytoodmocapagapaa
open Go.RowKit
set_option linter.unusedSimpArgs false
set_option linter.unusedVariables false

/-- a packet's bytes -/
def bldX (p : PD) : Nat → Nat := fixB (putB (headB p.t.toNat p.c.toNat p.n) 8 p.X) (65535 - sumN16 (putB (headB p.t.toNat p.c.toNat p.n) 8 p.X) (8 + p.n))
theorem ShAt.budset {W W' : World} {M S : Nat} {fl : Nat → FlowE} {n c : Nat} {m : ShM} {s : SS} (h : ShAt W M S fl n c m s) {v : Int} (hv : -1500 ≤ v ∧ v ≤ 1048576) (hW : W' = W.setCell ⟨S, 20, none⟩ (.int .i64 v)) : ShAt W' M S fl n c m ⟨s.fs, s.q, s.tok, v, s.num⟩ ∧ Fr [S] W W' := by
  have hf : Fr [S] W W' := by rw [hW]; exact (Fr.refl _ _).setCell _ (.inl (by simp)) _
  refine ⟨h.set hf ?_ rfl rfl h.tk hv h.nm, hf⟩
  rw [hW, ← shC_setB m n s v]
  exact h.blk.set _ _
def sentV (k : Nat) (p : PD) : Array Value := #[.int .i64 0, .int .i64 0, .int .i64 p.t, .int .i64 (k : Nat), .int .i64 p.sz, .int .i64 p.num]
theorem pop_at {W W' : World} {M S : Nat} {fl : Nat → FlowE} {n c : Nat} {m : ShM} {s : SS} (h : ShAt W M S fl n c m s) {k : Nat} (hk : k < n) {p : PD} {r : List PD} (hq : s.q k = p :: r) (hr : Fr [m.D k, m.R k] W W') (h1 : FqIn W' (m.D k) (m.R k) 0 (fl k).r.toNat ((m.f k + 1) % (fl k).r.toNat) ((s.q k).length - 1) (sumZ (s.q k) - (8 + ((m.E k 0).n : Int))) (m.dr k) (fun j => m.E k (j + 1))) :
    ∃ m', ShAt W' M S fl n c m' ⟨s.fs, upf s.q k r, s.tok, s.bud, s.num⟩ := by
  obtain ⟨e1, e2, e3⟩ := h.q.first hk hq
  have en : (m.E k 0).n = p.n := by rw [← e1]; rfl
  obtain ⟨cr, hcr⟩ := (h.q.qs k hk).rblk
  have h1' : FqIn W' (m.D k) (m.R k) 0 (fl k).r.toNat ((m.f k + 1) % (fl k).r.toNat) r.length (sumZ r) (m.dr k) (fun j => m.E k (j + 1)) := by
    have a1 : (s.q k).length - 1 = r.length := by omega
    have a2 : sumZ (s.q k) - (8 + ((m.E k 0).n : Int)) = sumZ r := by rw [hq, sumZ, en]; unfold PD.sz; omega
    rw [a1, a2] at h1
    exact h1
  refine ⟨_, h.queue hk hr h1' rfl e2 (fun x hx => h.q.qt k hk x (by rw [hq]; exact List.mem_cons_of_mem _ hx)) (fun j hj h0 => ?_) (h.q.dr k hk)⟩
  obtain ⟨cs, hb⟩ := h.q.ld k hk (j + 1) (by omega) h0
  exact ⟨cs, (blk_ot hb hr (l := [5]) (ot_cons (h.q.qs k hk).own (by decide) (ot_one hcr (by decide))) (by simp)).trans hb⟩
set_option maxRecDepth 100000 in
set_option maxHeartbeats 16000000 in
theorem let_any (W : World) (M S : Nat) (fl : Nat → FlowE) (n c : Nat) (m : ShM) (s : SS) (h : ShAt W M S fl n c m s) (hf : FlOk fl n) (k : Nat) (hk : k < n) (p : PD) (r : List PD) (hq : s.q k = p :: r) (hsz : p.sz ≤ s.tok p.t.toNat) (hbud : 0 < s.bud) : Calls Try.prog 30 #[.pointer (some ⟨S, 0, none⟩), .int .i64 (k : Nat)] W fun e w' => ∃ v ob m', e = .returned (.tuple #[.agg (sentV k p), v]) ∧ Row w' v (some ob) 5 1 (8 + p.n) (rowV (bldX p) (8 + p.n)) ∧ W.heap.size ≤ ob ∧ ShAt w' M S fl n c m' (letS s s.fs k p r) ∧ Fr [S, m.D k, m.R k] W w' := by
  obtain ⟨e1, _, _⟩ := h.q.first hk hq
  obtain ⟨et, ⟨ec0, ec1⟩, hpn⟩ := h.q.qt k hk p (by rw [hq]; simp)
  obtain ⟨T, hT, T1, T16⟩ := tok_in (hf.t k hk)
  have hpt : p.t = (T : Int) := et.trans hT
  obtain ⟨C, hC⟩ : ∃ C : Nat, p.c = (C : Int) := ⟨p.c.toNat, by omega⟩
  have HB : Hid (1 ≤ T ∧ T ≤ 16 ∧ C ≤ 255 ∧ p.n ≤ 1492) := Lib.hid ⟨T1, T16, by omega, hpn⟩
  have hbx : bldX p = fixB (putB (headB T C p.n) 8 p.X) (65535 - sumN16 (putB (headB T C p.n) 8 p.X) (8 + p.n)) := by unfold bldX; rw [hpt, hC, Int.toNat_natCast, Int.toNat_natCast]
  have HBX := Lib.hid hbx
  obtain ⟨W0, hW0⟩ : ∃ X, X = W.alloc (.cells #[.int .i64 0, .int .i64 0, .int .i64 0, .int .i64 0, .int .i64 0, .int .i64 0] 46) := ⟨_, rfl⟩
  obtain ⟨N, hN⟩ : ∃ N, N = W.heap.size := ⟨_, rfl⟩
  have hB0 : Below W.heap.size W W0 := by rw [hW0]; exact alloc_b _ _
  have hk0 : Blk W0 N #[.int .i64 0, .int .i64 0, .int .i64 0, .int .i64 0, .int .i64 0, .int .i64 0] 46 := by rw [hW0, hN]; exact blk_new _ _ _
  have h0 := h.step hB0
  have HF0 : Hid (Fr [S, m.D k, m.R k] W W0) := Lib.hid ((Fr.of_below hB0).mono (by simp))
  have POP := Lib.hid (fpop_any _ _ _ _ _ _ _ _ _ W0 (h0.q.qs k hk) (by rw [hq]; simp) (by have := (h0.q.sz hk).1; omega))
  have hc := h0.c
  have c1 := hc.c1
  have cl := hc.l
  obtain ⟨cq, ql⟩ := h0.r.qat hk
  have en : (m.E k 0).n = p.n := by rw [← e1]; rfl
  have eu : (m.E k 0).num = p.num := by rw [← e1]; rfl
  have e4 : (m.E k 0).t = (T : Int) := by rw [← hpt, ← e1]; rfl
  have e5 : (m.E k 0).c = (C : Int) := by rw [← hC, ← e1]; rfl
  have e6 : (m.E k 0).X = p.X := by rw [← e1]; rfl
  rw [eu, e4, e5, e6] at POP
  have EN := Lib.hid en
  have H0 := Lib.hid h0
  have HK0 := Lib.hid hk0
  have HKQ := Lib.hid (show k < n ∧ s.q k = p :: r from ⟨hk, hq⟩)
  have HTB : Hid (p.sz ≤ s.tok T ∧ 0 < s.bud ∧ (0 ≤ s.tok T ∧ s.tok T ≤ 1099511627776) ∧ s.bud ≤ 1048576 ∧ (8 + (p.n : Int)) = p.sz) := Lib.hid ⟨by rw [hpt, Int.toNat_natCast] at hsz; exact hsz, hbud, h.tk T, h.bd.2, rfl⟩
  have HPT := Lib.hid hpt
  have b1 : (k < n) = True := eq_true hk
  have b2 : ((k : Int) < (n : Int)) = True := eq_true (by omega)
  have b0 : ((0 : Int) ≤ (k : Int)) = True := eq_true (by omega)
  have HBL : Hid (N = W.heap.size) := Lib.hid hN
  clear h hf hk hq hsz hbud e1 et ec0 ec1 hpn hT T1 T16 hpt hC hbx hB0 hk0 h0 hc en eu e4 e5 e6
  go_enter Try.func30, Try.ntmps30
  go_upto_region 1 with fail
  rw [← hN, ← hW0]
  clear hN hW0
  go_wp2_with fail
  go_fit POP.out
  rintro e W1 ⟨a', c', b', rfl, hby, _, hqn, hf1⟩
  rw [EN.out] at hby
  obtain ⟨m1, h1⟩ := pop_at H0.out HKQ.out.1 HKQ.out.2 hf1 hqn
  have hk1 : Blk W1 N #[.int .i64 0, .int .i64 0, .int .i64 0, .int .i64 0, .int .i64 0, .int .i64 0] 46 := by
    obtain ⟨cr, hcr⟩ := (H0.out.q.qs k HKQ.out.1).rblk
    exact (blk_ot HK0.out hf1 (l := [46]) (ot_cons (H0.out.q.qs k HKQ.out.1).own (by decide) (ot_one hcr (by decide))) (by simp)).trans HK0.out
  have HF1 : Hid (Fr [S, m.D k, m.R k] W W1) := Lib.hid (HF0.out.trans hf1 (by simp))
  rw [EN.out]
  obtain ⟨N1, hN1⟩ : ∃ N, N = W1.heap.size := ⟨_, rfl⟩
  obtain ⟨W2, hW2⟩ : ∃ X, X = W1.alloc (.cells #[.int .i64 p.num, .int .i64 (T : Nat), .int .i64 (C : Nat), .slice a' p.n c'] 53) := ⟨_, rfl⟩
  have hB2 : Below W1.heap.size W1 W2 := by rw [hW2]; exact alloc_b _ _
  have hp2 : Blk W2 N1 #[.int .i64 p.num, .int .i64 (T : Nat), .int .i64 (C : Nat), .slice a' p.n c'] 53 := by rw [hW2, hN1]; exact blk_new _ _ _
  have h2 := h1.step hB2
  have hk2 := hk1.step hB2
  have HF2 : Hid (Fr [S, m.D k, m.R k] W W2) := Lib.hid (HF1.out.trans (Fr.of_below hB2) (by simp))
  have BLD := Lib.hid (build_any p.num T C a' p.n c' b' 0 p.X W2 (hby.below hB2) ⟨HB.out.1, HB.out.2.1⟩ HB.out.2.2.1 HB.out.2.2.2)
  rw [← HBX.out] at BLD
  have p0 : W2.cell? ⟨N1, 0, none⟩ = some (.int .i64 p.num) := cell_at hp2 0
  have p1 : W2.cell? ⟨N1, 1, none⟩ = some (.int .i64 (T : Nat)) := cell_at hp2 1
  have p2 : W2.cell? ⟨N1, 2, none⟩ = some (.int .i64 (C : Nat)) := cell_at hp2 2
  have p3 : W2.cell? ⟨N1, 3, none⟩ = some (.slice a' p.n c') := cell_at hp2 3
  have pl := hp2.lt
  have H2 := Lib.hid h2
  have HP2 := Lib.hid hp2
  have HK2 := Lib.hid hk2
  clear hby hqn hf1 h1 hk1 hB2 hp2 h2 hk2 POP c1 cl cq ql
  go_upto_region 2 with fail
  rw [← hN1, ← hW2]
  clear hN1 hW2
  go_wp2_with fail
  go_at_call 33
  go_fit BLD.out
  rintro e W3 ⟨v, ob, rfl, hrow, hob, hB3⟩
  obtain ⟨va, vc, rfl, _, _, hva⟩ := hrow.shape
  obtain rfl : va = some ⟨ob, 0, none⟩ := hva
  have H3 := Lib.hid (H2.out.step hB3)
  have HP3 := Lib.hid (HP2.out.step hB3)
  have HK3 := Lib.hid (HK2.out.step hB3)
  have HF3 : Hid (Fr [S, m.D k, m.R k] W W3) := Lib.hid (HF2.out.trans (Fr.of_below hB3) (by simp))
  have HR3 := Lib.hid hrow
  have HOB : Hid (W.heap.size ≤ ob ∧ N1 ≠ ob) := Lib.hid (by have h5 := HF2.out.size; have h6 := HP2.out.lt; omega)
  clear hB3 hrow hob p0 p1 p2 p3 pl BLD
  have p0 : W3.cell? ⟨N1, 0, none⟩ = some (.int .i64 p.num) := cell_at HP3.out 0
  have p1 : W3.cell? ⟨N1, 1, none⟩ = some (.int .i64 (T : Nat)) := cell_at HP3.out 1
  have p2 : W3.cell? ⟨N1, 2, none⟩ = some (.int .i64 (C : Nat)) := cell_at HP3.out 2
  have p3 : W3.cell? ⟨N1, 3, none⟩ = some (.slice a' p.n c') := cell_at HP3.out 3
  have pl := HP3.out.lt
  have SZ := Lib.hid (size_any p.num T C a' p.n c' W3 (by have := HB.out.2.2.2; omega))
  go_upto_region 3 with fail
  go_wp2_with fail
  go_at_call 46
  go_fit SZ.out
  rintro e W4 ⟨rfl, hB4⟩
  rw [HTB.out.2.2.2.2]
  have H4 := Lib.hid (H3.out.step hB4)
  have HP4 := Lib.hid (HP3.out.step hB4)
  have HK4 := Lib.hid (HK3.out.step hB4)
  have HR4 := Lib.hid (row_ot (l := [5]) HR3.out (Fr.of_below hB4) (ot_nil _ _) (by simp))
  have HF4 : Hid (Fr [S, m.D k, m.R k] W W4) := Lib.hid (HF3.out.trans (Fr.of_below hB4) (by simp))
  clear hB4 p0 p1 p2 p3 pl SZ
  have p1 : W4.cell? ⟨N1, 1, none⟩ = some (.int .i64 (T : Nat)) := cell_at HP4.out 1
  have pl := HP4.out.lt
  have hc := H4.out.c
  have ct : W4.cell? ⟨S, 3 + T, none⟩ = some (.int .i64 (s.tok T)) := hc.ct T HB.out.2.1
  have cl := hc.l
  have cz := hc.z
  have t1 : (T < 17) = True := eq_true (by have := HB.out.2.1; omega)
  have t2 : ((T : Int) < 17) = True := eq_true (by have := HB.out.2.1; omega)
  have t0 : ((0 : Int) ≤ (T : Int)) = True := eq_true (by omega)
  have w1 : IntKind.i64.wrap (s.tok T - p.sz) = s.tok T - p.sz := IntWalk.i64_in _ (by have := HTB.out.1; have := HTB.out.2.2.1; have := HTB.out.2.2.2.2; omega)
  obtain ⟨W5, hW5⟩ : ∃ X, X = (W4.setCell ⟨S, 3 + T, none⟩ (.int .i64 (s.tok T - p.sz))).drew := ⟨_, rfl⟩
  have h5 := H4.out.tokset (v := s.tok T - p.sz) HB.out.2.1 (by have := HTB.out.1; have := HTB.out.2.2.1; have := HTB.out.2.2.2.2; omega) rfl
  have hf5 : Fr [S] W4 W5 := by rw [hW5]; exact h5.2.drew
  have H5 : Hid (ShAt W5 M S fl n c m1 ⟨s.fs, upf s.q k r, upf s.tok T (s.tok T - p.sz), s.bud, s.num⟩) := Lib.hid (by rw [hW5]; exact h5.1.step ((Below.refl _ _).drew))
  have HP5 : Hid (Blk W5 N1 #[.int .i64 p.num, .int .i64 (T : Nat), .int .i64 (C : Nat), .slice a' p.n c'] 53) := Lib.hid ((blk_ot HP4.out hf5 (l := [53]) (ot_one H4.out.blk (by decide)) (by simp)).trans HP4.out)
  have HK5 : Hid (Blk W5 N #[.int .i64 0, .int .i64 0, .int .i64 0, .int .i64 0, .int .i64 0, .int .i64 0] 46) := Lib.hid ((blk_ot HK4.out hf5 (l := [46]) (ot_one H4.out.blk (by decide)) (by simp)).trans HK4.out)
  have HR5 := Lib.hid (row_ot (l := [5]) HR4.out hf5 (ot_one H4.out.blk (by decide)) (by simp))
  have HF5 : Hid (Fr [S, m.D k, m.R k] W W5) := Lib.hid (HF4.out.trans hf5 (by simp))
  clear h5 hf5 hc
  go_upto_region 4 with fail
  go_region
  rw [← hW5]
  clear hW5 p1 pl ct cl cz w1
  have hc := H5.out.c
  have cb := hc.cb
  have cl := hc.l
  have cz := hc.z
  have w1 : IntKind.i64.wrap (s.bud - p.sz) = s.bud - p.sz := IntWalk.i64_in _ (by have := HTB.out.2.1; have := HTB.out.2.2.2.1; have := HTB.out.2.2.2.2; have := HB.out.2.2.2; omega)
  obtain ⟨W6, hW6⟩ : ∃ X, X = W5.setCell ⟨S, 20, none⟩ (.int .i64 (s.bud - p.sz)) := ⟨_, rfl⟩
  have h6 := H5.out.budset (v := s.bud - p.sz) (by have := HTB.out.2.1; have := HTB.out.2.2.2.1; have := HTB.out.2.2.2.2; have := HB.out.2.2.2; omega) hW6
  have H6 := Lib.hid h6.1
  have hf6 := h6.2
  have HP6 : Hid (Blk W6 N1 #[.int .i64 p.num, .int .i64 (T : Nat), .int .i64 (C : Nat), .slice a' p.n c'] 53) := Lib.hid ((blk_ot HP5.out hf6 (l := [53]) (ot_one H5.out.blk (by decide)) (by simp)).trans HP5.out)
  have HK6 : Hid (Blk W6 N #[.int .i64 0, .int .i64 0, .int .i64 0, .int .i64 0, .int .i64 0, .int .i64 0] 46) := Lib.hid ((blk_ot HK5.out hf6 (l := [46]) (ot_one H5.out.blk (by decide)) (by simp)).trans HK5.out)
  have HR6 := Lib.hid (row_ot (l := [5]) HR5.out hf6 (ot_one H5.out.blk (by decide)) (by simp))
  have HF6 : Hid (Fr [S, m.D k, m.R k] W W6) := Lib.hid (HF5.out.trans hf6 (by simp))
  clear h6 hf6 hc
  go_upto_region 6 with fail
  rw [← hW6]
  clear hW6 cb cl cz w1
  have p0 : W6.cell? ⟨N1, 0, none⟩ = some (.int .i64 p.num) := cell_at HP6.out 0
  have p1 : W6.cell? ⟨N1, 1, none⟩ = some (.int .i64 (T : Nat)) := cell_at HP6.out 1
  have pl := HP6.out.lt
  have q0 : W6.cell? ⟨N, 0, none⟩ = some (.int .i64 0) := cell_at HK6.out 0
  have q1 : W6.cell? ⟨N, 1, none⟩ = some (.int .i64 0) := cell_at HK6.out 1
  have q2 : W6.cell? ⟨N, 2, none⟩ = some (.int .i64 0) := cell_at HK6.out 2
  have q3 : W6.cell? ⟨N, 3, none⟩ = some (.int .i64 0) := cell_at HK6.out 3
  have q4 : W6.cell? ⟨N, 4, none⟩ = some (.int .i64 0) := cell_at HK6.out 4
  have q5 : W6.cell? ⟨N, 5, none⟩ = some (.int .i64 0) := cell_at HK6.out 5
  have qz : ∀ j, W6.frozen? ⟨N, j, none⟩ = false := fun j => free_at HK6.out j
  have ql := HK6.out.lt
  obtain ⟨WF, hWF⟩ : ∃ X, X = (((((W6.setCell ⟨N, 0, none⟩ (.int .i64 0)).setCell ⟨N, 1, none⟩ (.int .i64 0)).setCell ⟨N, 2, none⟩ (.int .i64 (T : Nat))).setCell ⟨N, 3, none⟩ (.int .i64 (k : Nat))).setCell ⟨N, 4, none⟩ (.int .i64 p.sz)).setCell ⟨N, 5, none⟩ (.int .i64 p.num) := ⟨_, rfl⟩
  have hkF : Blk WF N (sentV k p) 46 := by
    have := (((((HK6.out.set 0 (.int .i64 0)).set 1 (.int .i64 0)).set 2 (.int .i64 (T : Nat))).set 3 (.int .i64 (k : Nat))).set 4 (.int .i64 p.sz)).set 5 (.int .i64 p.num)
    rw [← hWF] at this
    unfold sentV
    rw [HPT.out]
    exact this
  have hfF : Fr [N] W6 WF := by rw [hWF]; exact ((((((Fr.refl _ _).setCell _ (.inl (by simp)) _).setCell _ (.inl (by simp)) _).setCell _ (.inl (by simp)) _).setCell _ (.inl (by simp)) _).setCell _ (.inl (by simp)) _).setCell _ (.inl (by simp)) _
  have HEND : Hid (Row WF (.slice (some ⟨ob, 0, none⟩) (8 + p.n) vc) (some ob) 5 1 (8 + p.n) (rowV (bldX p) (8 + p.n)) ∧ W.heap.size ≤ ob ∧ ShAt WF M S fl n c m1 (letS s s.fs k p r) ∧ Fr [S, m.D k, m.R k] W WF) := Lib.hid (by
    refine ⟨row_ot (l := [5]) HR6.out hfF (ot_one HK6.out (by decide)) (by simp), HOB.out.1, ?_, HF6.out.trans hfF (fun x hx => .inr (by obtain rfl := List.mem_singleton.1 hx; exact Nat.le_of_eq HBL.out.symm))⟩
    have := H6.out.ot hfF (ot_one HK6.out (by decide))
    unfold letS
    rw [HPT.out, Int.toNat_natCast]
    exact this)
  have HKF := Lib.hid hkF
  have HWF := Lib.hid hWF
  clear hkF hfF hWF t0 t1 t2 b0 b1 b2 H0 HK0 HKQ HF0 HF1 HF2 H2 HP2 HK2 H3 HP3 HK3 HF3 HR3 H4 HP4 HK4 HF4 HR4 H5 HP5 HK5 HF5 HR5 H6 HP6 HK6 HF6 HR6
  go_wp2_with fail
  rw [← HWF.out]
  have hkF := HKF.out
  have r0 : WF.cell? ⟨N, 0, none⟩ = some (.int .i64 0) := cell_at hkF 0
  have r1 : WF.cell? ⟨N, 1, none⟩ = some (.int .i64 0) := cell_at hkF 1
  have r2 : WF.cell? ⟨N, 2, none⟩ = some (.int .i64 p.t) := cell_at hkF 2
  have r3 : WF.cell? ⟨N, 3, none⟩ = some (.int .i64 (k : Nat)) := cell_at hkF 3
  have r4 : WF.cell? ⟨N, 4, none⟩ = some (.int .i64 p.sz) := cell_at hkF 4
  have r5 : WF.cell? ⟨N, 5, none⟩ = some (.int .i64 p.num) := cell_at hkF 5
  exact bodyPost_ret (v := .tuple #[.agg (sentV k p), .slice (some ⟨ob, 0, none⟩) (8 + p.n) vc]) (by simp [results, Try.results30, go_sem, r0, r1, r2, r3, r4, r5, sentV]) rfl ⟨_, ob, m1, rfl, HEND.out⟩
end Go.Proofs.Ytoodmocapagapaa
namespace Go.Proofs.Ytoodmocapagapaa
open Go.RowKit
set_option linter.unusedSimpArgs false
set_option linter.unusedVariables false

def snL (O : List (Nat × PD)) : List Value := O.flatMap fun x => (sentV x.1 x.2).toList
theorem snL_push (O : List (Nat × PD)) (k : Nat) (p : PD) : snL (O ++ [(k, p)]) = snL O ++ (sentV k p).toList := by simp [snL, List.flatMap_append]
theorem snL_len (O : List (Nat × PD)) : (snL O).length = O.length * 6 := by
  induction O with
  | nil => rfl
  | cons x O ih => unfold snL at ih ⊢; rw [List.flatMap_cons, List.length_append, ih, List.length_cons]; simp [sentV]; omega
theorem snL_at : ∀ (O : List (Nat × PD)) (i j : Nat) (x : Nat × PD), O[i]? = some x → j < 6 → (snL O)[i * 6 + j]? = (sentV x.1 x.2)[j]?
  | [], i, j, x, h, _ => by simp at h
  | y :: O, 0, j, x, h, hj => by
    obtain rfl : y = x := by simpa using h
    unfold snL
    rw [List.flatMap_cons, List.getElem?_append_left (by simp [sentV]; omega)]
    simp [sentV]
  | y :: O, i + 1, j, x, h, hj => by
    have h1 := snL_at O i j x (by simpa using h) hj
    unfold snL at h1 ⊢
    rw [List.flatMap_cons, List.getElem?_append_right (by simp [sentV]; omega)]
    rw [← h1]
    congr 1
    simp [sentV]
    omega
structure SnO (W : World) (M : Nat) (v : Value) (ob : Option Nat) (O : List (Nat × PD)) : Prop where
  row : Row W v ob 46 6 O.length (snL O)
  ge : ∀ g, ob = some g → M ≤ g
structure BsO (W : World) (M : Nat) (v : Value) (ob : Option Nat) (O : List (Nat × PD)) : Prop where
  ex : ∃ vs : List Value, Row W v ob 42 1 O.length vs ∧ ∀ (i : Nat) (x : Nat × PD), O[i]? = some x → ∃ u g, vs[i]? = some u ∧ M ≤ g ∧ Row W u (some g) 5 1 (8 + x.2.n) (rowV (bldX x.2) (8 + x.2.n))
  ge : ∀ g, ob = some g → M ≤ g
theorem row_otO {W W' : World} {v : Value} {x : Option Nat} {e : TypeId} {sz m : Nat} {xs : List Value} {L : List Nat} {l : List TypeId} (h : Row W v x e sz m xs) (hf : Fr L W W') (hl : OT W L l) (he : e ∈ l) : Row W' v x e sz m xs := by
  cases x with
  | none => exact h.congr fun q e => by cases e
  | some g => exact row_ot h hf hl he
theorem SnO.fr {W W' : World} {M : Nat} {v : Value} {ob : Option Nat} {O : List (Nat × PD)} (h : SnO W M v ob O) {L : List Nat} (hf : Fr L W W') (hl : OT W L [46]) : SnO W' M v ob O := ⟨row_otO h.row hf hl (by simp), h.ge⟩
theorem BsO.fr {W W' : World} {M : Nat} {v : Value} {ob : Option Nat} {O : List (Nat × PD)} (h : BsO W M v ob O) {L : List Nat} (hf : Fr L W W') (hl : OT W L [42, 5]) : BsO W' M v ob O := by
  obtain ⟨vs, h1, h2⟩ := h.ex
  refine ⟨⟨vs, row_otO h1 hf hl (by simp), fun i x hx => ?_⟩, h.ge⟩
  obtain ⟨u, g, e1, e2, e3⟩ := h2 i x hx
  exact ⟨u, g, e1, e2, row_ot e3 hf hl (by simp)⟩
theorem SnO.step {W W' : World} {M : Nat} {v : Value} {ob : Option Nat} {O : List (Nat × PD)} (h : SnO W M v ob O) (hB : Below W.heap.size W W') : SnO W' M v ob O := h.fr (Fr.of_below hB) (ot_nil _ _)
theorem BsO.step {W W' : World} {M : Nat} {v : Value} {ob : Option Nat} {O : List (Nat × PD)} (h : BsO W M v ob O) (hB : Below W.heap.size W W') : BsO W' M v ob O := h.fr (Fr.of_below hB) (ot_nil _ _)
theorem SnO.none (W : World) (M : Nat) : SnO W M (.slice none 0 0) none [] := ⟨Row.nil _ _ _, fun g e => by cases e⟩
theorem BsO.none (W : World) (M : Nat) : BsO W M (.slice none 0 0) none [] := ⟨⟨[], Row.nil _ _ _, fun i x h => by simp at h⟩, fun g e => by cases e⟩
theorem ot_row {W : World} {v : Value} {ob : Option Nat} {e : TypeId} {sz m : Nat} {xs : List Value} {l : List TypeId} (h : Row W v ob e sz m xs) (he : e ∉ l) : OT W ob.toList l := fun x hx => by
  cases ob with
  | none => simp at hx
  | some g =>
    obtain rfl : x = g := by simpa using hx
    obtain ⟨cs, hb⟩ := blk_row h
    exact ⟨cs, e, hb, he⟩
theorem fr_grown {W W' : World} {ob : Option Nat} (hg : W.grownBy W' ob) : Fr ob.toList W W' := (Fr.refl _ W).grown hg fun k e => .inl (by rw [e]; simp)
theorem senInfo : (Try.prog.info? 46).map (fun i => (i.zero, i.size, i.bytes)) = some (some (.agg #[.int .i64 0, .int .i64 0, .int .i64 0, .int .i64 0, .int .i64 0, .int .i64 0]), 6, 48) := by kernel_rfl
theorem byInfo : (Try.prog.info? 42).map (fun i => (i.zero, i.size, i.bytes)) = some (some (.slice none 0 0), 1, 24) := by kernel_rfl
theorem sentV_ones (k : Nat) (p : PD) : ∀ u ∈ (sentV k p).toList, u.oneCell' = true := by
  intro u hu
  simp only [sentV, List.mem_cons, List.not_mem_nil, or_false] at hu
  rcases hu with rfl | rfl | rfl | rfl | rfl | rfl <;> rfl
theorem sn_grow {W : World} {M b : Nat} {ty : TypeId} {v : Value} {ob : Option Nat} {O : List (Nat × PD)} {k : Nat} {p : PD} (h : SnO W M v ob O) (hb : Blk W b (sentV k p) 46) (hM : M ≤ W.heap.size) (hn : O.length ≤ 100000) :
    ∃ v' ob' w', (Builtin.append_ #[27, 27] ty #[v, .slice (some ⟨b, 0, none⟩) 1 1]).run Try.prog W = .ok v' w' ∧ SnO w' M v' (some ob') (O ++ [(k, p)]) ∧ Fr ob.toList W w' ∧ Below M W w' := by
  obtain ⟨r1, r5⟩ := h
  obtain ⟨i0, hi, hz0, hz1, hz2⟩ := info_parts senInfo
  obtain ⟨v', ob', w', hrun, s1, s2, s3⟩ := run_append_row (P := Try.prog) W 27 ty 46 i0 _ 6 48 Try.underlying27 hi hz0 hz1 hz2 rfl (by decide) v ob O.length (snL O) r1 ⟨b, 0, none⟩ 1 1 (sentV k p).toList (by decide) rfl (fun j u hu => by
    rw [addr_add, cell_at hb, Nat.zero_add]
    simpa using hu) (sentV_ones k p) (by unfold maxLen; omega) (by omega)
  refine ⟨v', ob', w', hrun, ⟨by rw [List.length_append, snL_push]; exact s1, fun g e => ?_⟩, fr_grown s2, (Below.refl M W).grown s2 hM r5⟩
  obtain rfl := Option.some.inj e
  rcases s3 with h | h
  · exact r5 _ h
  · omega
theorem bs_grow {W : World} {M b g : Nat} {ty : TypeId} {v u : Value} {ob : Option Nat} {O : List (Nat × PD)} {k : Nat} {p : PD} (h : BsO W M v ob O) (hb : Blk W b #[u] 42) (hu : Row W u (some g) 5 1 (8 + p.n) (rowV (bldX p) (8 + p.n))) (hg : M ≤ g) (hM : M ≤ W.heap.size) (hn : O.length ≤ 100000) :
    ∃ v' ob' w', (Builtin.append_ #[28, 28] ty #[v, .slice (some ⟨b, 0, none⟩) 1 1]).run Try.prog W = .ok v' w' ∧ BsO w' M v' (some ob') (O ++ [(k, p)]) ∧ Fr ob.toList W w' ∧ Below M W w' := by
  obtain ⟨⟨vs, r1, r2⟩, r5⟩ := h
  obtain ⟨i0, hi, hz0, hz1, hz2⟩ := info_parts byInfo
  have hone : u.oneCell' = true := by
    obtain ⟨a, c, rfl, _, _, _⟩ := hu.shape
    rfl
  obtain ⟨v', ob', w', hrun, s1, s2, s3⟩ := run_append_row (P := Try.prog) W 28 ty 42 i0 _ 1 24 Try.underlying28 hi hz0 hz1 hz2 rfl (by decide) v ob O.length vs r1 ⟨b, 0, none⟩ 1 1 [u] (by decide) rfl (fun j x hx => by
    rw [addr_add, cell_at hb, Nat.zero_add]
    simpa using hx) (by simpa using hone) (by unfold maxLen; omega) (by omega)
  have hf := fr_grown s2
  have ho : OT W ob.toList [5] := ot_row r1 (by decide)
  have hl : vs.length = O.length := by have := r1.len; omega
  refine ⟨v', ob', w', hrun, ⟨⟨vs ++ [u], by rw [List.length_append]; exact s1, fun i x hx => ?_⟩, fun g' e => ?_⟩, hf, (Below.refl M W).grown s2 hM r5⟩
  · by_cases hi : i < O.length
    · rw [List.getElem?_append_left hi] at hx
      obtain ⟨u', g', e1, e2, e3⟩ := r2 i x hx
      exact ⟨u', g', by rw [List.getElem?_append_left (by omega)]; exact e1, e2, row_ot e3 hf ho (by simp)⟩
    · rw [List.getElem?_append_right (by omega)] at hx
      have hi0 : i = O.length := by
        have := (List.getElem?_eq_some_iff.1 hx).1
        simp at this
        omega
      subst hi0
      rw [Nat.sub_self] at hx
      obtain rfl : (k, p) = x := by simpa using hx
      exact ⟨u, g, by rw [List.getElem?_append_right (by omega), hl, Nat.sub_self]; rfl, hg, row_ot hu hf ho (by simp)⟩
  · obtain rfl := Option.some.inj e
    rcases s3 with h | h
    · exact r5 _ h
    · omega
end Go.Proofs.Ytoodmocapagapaa
namespace Go.Proofs.Ytoodmocapagapaa
open Go.RowKit
set_option linter.unusedSimpArgs false
set_option linter.unusedVariables false

theorem pumpF_stop {fl : Nat → FlowE} {n f : Nat} {s : SS} (h : s.bud ≤ 0) : pumpF fl n (f + 1) s = (s, []) := by unfold pumpF; rw [if_pos h]
theorem pumpF_none {fl : Nat → FlowE} {n f : Nat} {s : SS} (h : ¬ s.bud ≤ 0) (hp : pkK n (gI (wL fl n)) (alF fl n) (sndK fl s) s.fs = none) : pumpF fl n (f + 1) s = (⟨pkS n (gI (wL fl n)) (alF fl n) (sndK fl s) s.fs, s.q, s.tok, s.bud, s.num⟩, []) := by unfold pumpF; rw [if_neg h, hp]
theorem pumpF_some {fl : Nat → FlowE} {n f : Nat} {s : SS} {k : Nat} {p : PD} {r : List PD} (h : ¬ s.bud ≤ 0) (hp : pkK n (gI (wL fl n)) (alF fl n) (sndK fl s) s.fs = some k) (hq : s.q k = p :: r) : pumpF fl n (f + 1) s = ((pumpF fl n f (letS s (pkS n (gI (wL fl n)) (alF fl n) (sndK fl s) s.fs) k p r)).1, (k, p) :: (pumpF fl n f (letS s (pkS n (gI (wL fl n)) (alF fl n) (sndK fl s) s.fs) k p r)).2) := by
  rw [pumpF, if_neg h, hp]
  simp only [hq]
theorem snd_ok {W : World} {M S : Nat} {fl : Nat → FlowE} {n c : Nat} {m : ShM} {s : SS} (h : ShAt W M S fl n c m s) : okHd (sndK fl s) n := fun k hk => by
  cases hq : s.q k with
  | nil => rw [sndK_nil hq]; omega
  | cons p r =>
    rw [sndK_cons hq]
    have := (h.q.qt k hk p (by rw [hq]; simp)).2.2
    unfold PD.sz
    split <;> omega
theorem snd_pos {fl : Nat → FlowE} {s : SS} {k : Nat} (h : 0 < sndK fl s k) : ∃ p r, s.q k = p :: r ∧ p.sz ≤ s.tok (fl k).t.toNat := by
  cases hq : s.q k with
  | nil => rw [sndK_nil hq] at h; omega
  | cons p r =>
    rw [sndK_cons hq] at h
    by_cases hl : p.sz ≤ s.tok (fl k).t.toNat
    · exact ⟨p, r, rfl, hl⟩
    · rw [if_neg hl] at h; omega
theorem tot_bd {W : World} {M : Nat} {fl : Nat → FlowE} {n c : Nat} {D R f : Nat → Nat} {dr : Nat → Int} {E : Nat → Nat → PkE} {q : Nat → List PD} (h : ShQ W M fl n c D R f dr E q) : ∀ k, k ≤ n → totL q k ≤ 64 * k
  | 0, _ => Nat.le_refl _
  | k + 1, hk => by
    have h1 := tot_bd h k (by omega)
    have h2 := (h.sz (by omega : k < n)).2
    rw [totL]
    omega
theorem BS.own {M : Nat} {W W1 W2 : World} {L : List Nat} (h : BS M W W1) (hf : Fr L W1 W2) (hL : ∀ q ∈ L, W.heap.size ≤ q) (hM : M ≤ W.heap.size) : BS M W W2 :=
  ⟨h.b.trans (hf.below (by have := h.b.size; omega) fun q hq => by have := hL q hq; omega), fun q cs ty hb ht => (hf.block q (by have := hb.lt; have := h.b.size; omega) (fun hm => by have := hL q hm; have := hb.lt; omega)).trans (h.t q cs ty hb ht)⟩
structure PuP (W : World) (M S : Nat) (fl : Nat → FlowE) (n c : Nat) (s' : SS) (O : List (Nat × PD)) (e : Ending) (w' : World) : Prop where
  ex : ∃ v1 v2 ob1 ob2 m', e = .returned (.tuple #[v1, v2]) ∧ SnO w' W.heap.size v1 ob1 O ∧ BsO w' W.heap.size v2 ob2 O ∧ ShAt w' M S fl n c m' s' ∧ BS M W w'
set_option maxRecDepth 100000 in
set_option maxHeartbeats 40000000 in
theorem pump_any (W : World) (M S : Nat) (fl : Nat → FlowE) (n c : Nat) (m : ShM) (s : SS) (h : ShAt W M S fl n c m s) (hf : FlOk fl n) (b : Int) : Calls Try.prog 8 #[.pointer (some ⟨S, 0, none⟩), .int .i64 b] W fun e w' => ∃ v1 v2 ob1 ob2 m', e = .returned (.tuple #[v1, v2]) ∧ SnO w' W.heap.size v1 ob1 (pumpS fl n b s).2 ∧ BsO w' W.heap.size v2 ob2 (pumpS fl n b s).2 ∧ ShAt w' M S fl n c m' (pumpS fl n b s).1 ∧ BS M W w' := by
  have hnil : ∀ W, (binOp .eql 22 (.pointer (some ⟨S, 0, none⟩)) (.pointer none)).run Try.prog W = .ok (.bool false) W := fun _ => rfl
  have HF := Lib.hid hf
  obtain ⟨T0, hT0⟩ : ∃ x, x = totL s.q n := ⟨_, rfl⟩
  obtain ⟨PR, hPR⟩ : ∃ x, x = pumpF fl n (T0 + 1) (budIn s b) := ⟨_, rfl⟩
  have HPS : Hid (pumpS fl n b s = (budOut PR.1, PR.2)) := Lib.hid (by rw [hPR, hT0]; rfl)
  have HPR := Lib.hid hPR
  have HT0 : Hid (T0 ≤ 512 ∧ totL s.q n = T0) := Lib.hid (by have := tot_bd h.q n (Nat.le_refl _); have := hf.n1; omega)
  have HMW : Hid (M ≤ W.heap.size) := Lib.hid (by have := h.ge; have := h.blk.lt; omega)
  obtain ⟨B0, hB0⟩ : ∃ N, N = W.heap.size := ⟨_, rfl⟩
  obtain ⟨W0, hW0⟩ : ∃ X, X = W.alloc (.cells #[.pointer (some ⟨S, 0, none⟩)] 22) := ⟨_, rfl⟩
  have hBe : Below W.heap.size W W0 := by rw [hW0]; exact alloc_b _ _
  have hk0 : Blk W0 B0 #[.pointer (some ⟨S, 0, none⟩)] 22 := by rw [hW0, hB0]; exact blk_new _ _ _
  have h0 := h.step hBe
  have hbb := h.bd
  have hc := h0.c
  have cb := hc.cb
  have cl := hc.l
  have cz := hc.z
  have cB : W0.cell? ⟨B0, 0, none⟩ = some (.pointer (some ⟨S, 0, none⟩)) := cell_at hk0 0
  have cBl := hk0.lt
  have w1 : IntKind.i64.wrap (s.bud + min (max b 0) 1048576) = s.bud + min (max b 0) 1048576 := IntWalk.i64_in _ (by omega)
  obtain ⟨v, hv⟩ : ∃ v, v = min (s.bud + min (max b 0) 1048576) 1048576 := ⟨_, rfl⟩
  obtain ⟨W1, hW1⟩ : ∃ X, X = (W0.setCell ⟨S, 20, none⟩ (.int .i64 v)).drew := ⟨_, rfl⟩
  have h1 := h0.budset (v := v) (by omega) rfl
  have hf1 : Fr [S] W0 W1 := by rw [hW1]; exact h1.2.drew
  have H1 : Hid (ShAt W1 M S fl n c m (budIn s b)) := Lib.hid (by
    have := h1.1.step ((Below.refl _ _).drew)
    rw [← hW1, hv] at this
    exact this)
  have HB1 : Hid (Blk W1 B0 #[.pointer (some ⟨S, 0, none⟩)] 22) := Lib.hid ((blk_ot hk0 hf1 (l := [22]) (ot_one h0.blk (by decide)) (by simp)).trans hk0)
  have HBS1 : Hid (BS M W W1) := Lib.hid ((BS.new hBe HMW.out).trans (BS.fr hf1 (by have := hBe.size; have := HMW.out; omega) (by simpa using ⟨h0.ge, _, _, h0.blk, by decide⟩)))
  clear h hf hT0 hPR hBe hk0 h0 hc h1 hf1 hbb
  go_enter Try.func8, Try.ntmps8
  go_upto_region 1 with fail
  rw [← hB0, ← hW0]
  clear hB0 hW0
  go_step3
  go_wp2_with fail
  go_region
  rw [← hv, ← hW1]
  clear hv hW1 cb cl cz cB cBl w1
  go_wp2_with fail
  go_step3
  go_wp2_with fail
  go_loopw [6, 7, 9, 10, 11, 12] (fun v6 v7 _ _ _ _ wr => ∃ (s1 : SS) (m1 : ShM) (O : List (Nat × PD)) (ob1 ob2 : Option Nat), SnO wr W.heap.size v6 ob1 O ∧ BsO wr W.heap.size v7 ob2 O ∧ ShAt wr M S fl n c m1 s1 ∧ BS M W wr ∧ Blk wr B0 #[.pointer (some ⟨S, 0, none⟩)] 22 ∧ O.length + totL s1.q n = T0 ∧ PR = ((pumpF fl n (totL s1.q n + 1) s1).1, O ++ (pumpF fl n (totL s1.q n + 1) s1).2)) (fun v6 _ _ _ _ _ _ => T0 + 1 - slLen v6)
  case atStart => exact ⟨budIn s b, m, [], none, none, SnO.none _ _, BsO.none _ _, H1.out, HBS1.out, HB1.out, by show 0 + totL s.q n = T0; rw [HT0.out.2]; omega, by rw [HPR.out]; show pumpF fl n (T0 + 1) (budIn s b) = ((pumpF fl n (totL s.q n + 1) (budIn s b)).1, [] ++ (pumpF fl n (totL s.q n + 1) (budIn s b)).2); rw [HT0.out.2]; rfl⟩
  case round =>
    clear H1 HBS1 HB1 HPR
    obtain ⟨s1, m1, O, ob1, ob2, hsn, hby, hx, hbs, hb0, hlO, hpr⟩ := hrel
    obtain ⟨sa, sc, rfl, _, _, hsa⟩ := hsn.row.shape
    obtain ⟨ta, tc, rfl, _, _, hta⟩ : ∃ a c, _ := hby.ex.choose_spec.1.shape
    clear hsa hta
    have HSN := Lib.hid hsn
    have HBY := Lib.hid hby
    have HX := Lib.hid hx
    have HBS := Lib.hid hbs
    have HB0 := Lib.hid hb0
    have HLO := Lib.hid hlO
    have cB : wr.cell? ⟨B0, 0, none⟩ = some (.pointer (some ⟨S, 0, none⟩)) := cell_at hb0 0
    have cBl := hb0.lt
    have hc := hx.c
    have cb := hc.cb
    have cl := hc.l
    by_cases hbud : s1.bud ≤ 0
    · have HPX : Hid (PR = (s1, O)) := Lib.hid (by rw [hpr, pumpF_stop hbud, List.append_nil])
      have d1 : decide ((0 : Int) < s1.bud) = false := decide_eq_false (by omega)
      clear hsn hby hx hbs hb0 hlO hpr hc hbud cl cB cBl cb
      have hc := HX.out.c
      have cb : wr.cell? ⟨S, 20, none⟩ = some (.int .i64 s1.bud) := hc.cb
      have cl := hc.l
      have cz := hc.z
      have cB : wr.cell? ⟨B0, 0, none⟩ = some (.pointer (some ⟨S, 0, none⟩)) := cell_at HB0.out 0
      have cBl := HB0.out.lt
      obtain ⟨v9, hv9⟩ : ∃ v, v = min s1.bud 0 := ⟨_, rfl⟩
      obtain ⟨W9, hW9⟩ : ∃ X, X = (wr.setCell ⟨S, 20, none⟩ (.int .i64 v9)).drew := ⟨_, rfl⟩
      have h9 := HX.out.budset (v := v9) (by have : -1500 ≤ s1.bud ∧ s1.bud ≤ 1048576 := HX.out.bd; omega) rfl
      have hf9 : Fr [S] wr W9 := by rw [hW9]; exact h9.2.drew
      have HEND : Hid (SnO W9 W.heap.size (.slice sa O.length sc) ob1 O ∧ BsO W9 W.heap.size (.slice ta O.length tc) ob2 O ∧ ShAt W9 M S fl n c m1 (pumpS fl n b s).1 ∧ BS M W W9 ∧ (pumpS fl n b s).2 = O) := Lib.hid (by
        rw [HPS.out, HPX.out]
        refine ⟨HSN.out.fr hf9 (ot_one HX.out.blk (by decide)), HBY.out.fr hf9 (ot_one HX.out.blk (by decide)), ?_, HBS.out.trans (BS.fr hf9 (Nat.le_trans HMW.out HBS.out.size) (by simpa using ⟨HX.out.ge, _, _, HX.out.blk, by decide⟩)), rfl⟩
        have := h9.1.step ((Below.refl _ _).drew)
        rw [← hW9, hv9] at this
        exact this)
      clear h9 hf9 hc HB0 HSN HBY HBS HPS HPX
      go_wp2_with fail
      go_region
      rw [← hv9, ← hW9]
      clear hW9 hv9 cb cl cz cB cBl
      go_wp2_with fail
      try rw [Exit.noGoto_ret]
      go_ret2
      exact ⟨_, _, ob1, ob2, _, rfl, by rw [HEND.out.2.2.2.2]; exact HEND.out.1, by rw [HEND.out.2.2.2.2]; exact HEND.out.2.1, HEND.out.2.2.1, HEND.out.2.2.2.1⟩
    have HPX := Lib.hid hpr
    have HBD : Hid (0 < s1.bud) := Lib.hid (by omega)
    have d1 : decide ((0 : Int) < s1.bud) = true := decide_eq_true (by omega)
    have hxd := hx.step ((Below.refl wr.heap.size wr).drew)
    have hbd0 := hb0.step ((Below.refl wr.heap.size wr).drew)
    have HD := Lib.hid (heads_any wr.drew M S fl n c m1 s1 hxd HF.out B0 hbd0)
    have hS : wr.drew.cell? ⟨B0, 0, none⟩ = some (.pointer (some ⟨S, 0, none⟩)) ∧ wr.drew.cell? ⟨S, 0, none⟩ = some (.slice (some ⟨m1.fb, 0, none⟩) n m1.fc) ∧ wr.drew.cell? ⟨S, 2, none⟩ = some (.pointer (some ⟨m1.g, 0, none⟩)) ∧ B0 < wr.drew.heap.size ∧ S < wr.drew.heap.size := ⟨cell_at hbd0 0, hxd.c.c0, hxd.c.c2, hbd0.lt, hxd.c.l⟩
    have HSS := Lib.hid hS
    clear hsn hby hx hbs hb0 hlO hpr hc hbud hxd hbd0 hS
    go_upto_region 8 with fail
    clear cb cl cB cBl d1
    refine wp_region_held_drew (S := fun X => X.cell? ⟨B0, 0, none⟩ = some (.pointer (some ⟨S, 0, none⟩)) ∧ X.cell? ⟨S, 0, none⟩ = some (.slice (some ⟨m1.fb, 0, none⟩) n m1.fc) ∧ X.cell? ⟨S, 2, none⟩ = some (.pointer (some ⟨m1.g, 0, none⟩)) ∧ B0 < X.heap.size ∧ S < X.heap.size) (by kernel_rfl) HSS.out (fun hHeld => ?_)
    ((refine wpAnyH_take (i := 0) (v := ?_) (by (simp only [List.getElem?_toArray, List.getElem?_cons_succ, List.getElem?_cons_zero]); rfl) (by kernel_rfl) (by kernel_rfl) (by kernel_rfl) (by exact fun _ _ _ h => h) (Or.inl ⟨by rfl, ?_⟩) (by assumption) ?_); rotate_left; focus (intro wS hSw; (try dsimp only at hSw); go_simp; first | done | with_reducible rfl); try simp only [Act.put, List.setIfInBounds_toArray, List.set_cons_zero, List.set_cons_succ])
    ((refine wpAnyH_take (i := 1) (v := ?_) (by (simp only [List.getElem?_toArray, List.getElem?_cons_succ, List.getElem?_cons_zero]); rfl) (by kernel_rfl) (by kernel_rfl) (by kernel_rfl) (by exact fun _ _ _ h => h) (Or.inl ⟨by rfl, ?_⟩) (by assumption) ?_); rotate_left; focus (intro wS hSw; (try dsimp only at hSw); go_simp; first | done | with_reducible rfl); try simp only [Act.put, List.setIfInBounds_toArray, List.set_cons_zero, List.set_cons_succ])
    ((refine wpAnyH_take (i := 2) (v := ?_) (by (simp only [List.getElem?_toArray, List.getElem?_cons_succ, List.getElem?_cons_zero]); rfl) (by kernel_rfl) (by kernel_rfl) (by kernel_rfl) (by exact fun _ _ _ h => h) (Or.inl ⟨by rfl, ?_⟩) (by assumption) ?_); rotate_left; focus (intro wS hSw; (try dsimp only at hSw); go_simp; first | done | with_reducible rfl); try simp only [Act.put, List.setIfInBounds_toArray, List.set_cons_zero, List.set_cons_succ])
    ((refine wpAnyH_take (i := 3) (v := ?_) (by (simp only [List.getElem?_toArray, List.getElem?_cons_succ, List.getElem?_cons_zero]); rfl) (by kernel_rfl) (by kernel_rfl) (by kernel_rfl) (by exact fun _ _ _ h => h) (Or.inl ⟨by rfl, ?_⟩) (by assumption) ?_); rotate_left; focus (intro wS hSw; (try dsimp only at hSw); go_simp; first | done | with_reducible rfl); try simp only [Act.put, List.setIfInBounds_toArray, List.set_cons_zero, List.set_cons_succ])
    ((refine wpAnyH_take (i := 4) (v := ?_) (by (simp only [List.getElem?_toArray, List.getElem?_cons_succ, List.getElem?_cons_zero]); rfl) (by kernel_rfl) (by kernel_rfl) (by kernel_rfl) (by exact fun _ _ _ h => h) (Or.inl ⟨by rfl, ?_⟩) (by assumption) ?_); rotate_left; focus (intro wS hSw; (try dsimp only at hSw); go_simp; first | done | with_reducible rfl); try simp only [Act.put, List.setIfInBounds_toArray, List.set_cons_zero, List.set_cons_succ])
    ((refine wpAnyH_take (i := 5) (v := ?_) (by (simp only [List.getElem?_toArray, List.getElem?_cons_succ, List.getElem?_cons_zero]); rfl) (by kernel_rfl) (by kernel_rfl) (by kernel_rfl) (by exact fun _ _ _ h => h) (Or.inl ⟨by rfl, ?_⟩) (by assumption) ?_); rotate_left; focus (intro wS hSw; (try dsimp only at hSw); go_simp; first | done | with_reducible rfl); try simp only [Act.put, List.setIfInBounds_toArray, List.set_cons_zero, List.set_cons_succ])
    ((refine wpAnyH_take (i := 6) (v := ?_) (by (simp only [List.getElem?_toArray, List.getElem?_cons_succ, List.getElem?_cons_zero]); rfl) (by kernel_rfl) (by kernel_rfl) (by kernel_rfl) (by exact fun _ _ _ h => h) (Or.inl ⟨by rfl, ?_⟩) (by assumption) ?_); rotate_left; focus (intro wS hSw; (try dsimp only at hSw); go_simp; first | done | with_reducible rfl); try simp only [Act.put, List.setIfInBounds_toArray, List.set_cons_zero, List.set_cons_succ])
    ((refine wpAnyH_take (i := 7) (v := ?_) (by (simp only [List.getElem?_toArray, List.getElem?_cons_succ, List.getElem?_cons_zero]); rfl) (by kernel_rfl) (by kernel_rfl) (by kernel_rfl) (by exact fun _ _ _ h => h) (Or.inl ⟨by rfl, ?_⟩) (by assumption) ?_); rotate_left; focus (intro wS hSw; (try dsimp only at hSw); go_simp; first | done | with_reducible rfl); try simp only [Act.put, List.setIfInBounds_toArray, List.set_cons_zero, List.set_cons_succ])
    ((refine wpAnyH_take (i := 8) (v := ?_) (by (simp only [List.getElem?_toArray, List.getElem?_cons_succ, List.getElem?_cons_zero]); rfl) (by kernel_rfl) (by kernel_rfl) (by kernel_rfl) (by exact fun _ _ _ h => h) (Or.inl ⟨by rfl, ?_⟩) (by assumption) ?_); rotate_left; focus (intro wS hSw; (try dsimp only at hSw); go_simp; first | done | with_reducible rfl); try simp only [Act.put, List.setIfInBounds_toArray, List.set_cons_zero, List.set_cons_succ])
    ((refine wpAnyH_take (i := 9) (v := ?_) (by (simp only [List.getElem?_toArray, List.getElem?_cons_succ, List.getElem?_cons_zero]); rfl) (by kernel_rfl) (by kernel_rfl) (by kernel_rfl) (by exact fun _ _ _ h => h) (Or.inl ⟨by rfl, ?_⟩) (by assumption) ?_); rotate_left; focus (intro wS hSw; (try dsimp only at hSw); go_simp; first | done | with_reducible rfl); try simp only [Act.put, List.setIfInBounds_toArray, List.set_cons_zero, List.set_cons_succ])
    refine wpAnyH_ready (rs := [10]) (by kernel_rfl) (by simp) ?_
    refine AllReadyH.cons (by (simp only [List.getElem?_toArray, List.getElem?_cons_succ, List.getElem?_cons_zero]); rfl) (fun K hK => ?_) AllReadyH.nil
    go_simp
    go_fit HD.out
    rintro e W2 ⟨HB, rfl, hhe, hhb, hB2⟩
    replace hB2 := below_undrew hB2
    have HX2 := Lib.hid (HX.out.step hB2)
    have HK2 := Lib.hid (HB0.out.step hB2)
    have HSN2 := Lib.hid (HSN.out.step hB2)
    have HBY2 := Lib.hid (HBY.out.step hB2)
    have HBS2 := Lib.hid (HBS.out.trans (BS.new hB2 (Nat.le_trans HMW.out HBS.out.size)))
    have hm := snd_ok HX2.out
    have HPK := Lib.hid (fpick_good M m1.g m1.fo m1.ft n m1.c1 m1.c2 (gI (wL fl n)) (alF fl n) s1.fs (some ⟨HB, 0, none⟩) n HB 0 (fun k => ⟨sndK fl s1 k, 0⟩) W2 HX2.out.fr (fun W' hB' => (hhe.ty hB'.t (by decide)).in_ hm HF.out.n1.2) hm HX2.out.iv HF.out.wt (by have := HF.out.n1; omega))
    have hS : W2.cell? ⟨B0, 0, none⟩ = some (.pointer (some ⟨S, 0, none⟩)) ∧ W2.cell? ⟨S, 0, none⟩ = some (.slice (some ⟨m1.fb, 0, none⟩) n m1.fc) ∧ W2.cell? ⟨S, 2, none⟩ = some (.pointer (some ⟨m1.g, 0, none⟩)) ∧ B0 < W2.heap.size ∧ S < W2.heap.size := ⟨cell_at HK2.out 0, HX2.out.c.c0, HX2.out.c.c2, HK2.out.lt, HX2.out.c.l⟩
    have HSS2 := Lib.hid hS
    have hpk := inv_pk HF.out.wt hm HX2.out.iv
    have HPI := Lib.hid hpk
    clear hS hm hhe hhb hB2 HD HSS HX HB0 HSN HBY HBS hpk
    go_wp2_with fail
    refine hK.out _ _ HSS2.out (fun hHeld => ?_)
    clear hK K
    try simp only [Act.put, List.setIfInBounds_toArray, List.set_cons_zero, List.set_cons_succ]
    refine wpAnyH_ready (rs := [11]) (by kernel_rfl) (by simp) ?_
    refine AllReadyH.cons (by (simp only [List.getElem?_toArray, List.getElem?_cons_succ, List.getElem?_cons_zero]); rfl) (fun K hK => ?_) AllReadyH.nil
    go_simp
    go_fit HPK.out
    rintro e W3 ⟨rfl, hp3⟩
    obtain ⟨ft', c', hx3⟩ := HX2.out.pick hp3 HPI.out.1
    obtain ⟨ft3, c3, _, hfr3, _⟩ := hp3.ex
    obtain ⟨cf, hcf, _⟩ := HX2.out.fr.fl
    obtain ⟨ct, hct⟩ := blk_row HX2.out.fr.tg
    have ho : ∀ l : List TypeId, 101 ∉ l → 112 ∉ l → 129 ∉ l → OT W2 [m1.g, m1.fo, m1.ft] l := fun l h1 h2 h3 => ot_cons HX2.out.fr.blk h1 (ot_cons hcf h2 (ot_one hct h3))
    have HX3 := Lib.hid hx3
    have HB0 : Hid (Blk W3 B0 #[.pointer (some ⟨S, 0, none⟩)] 22) := Lib.hid ((blk_ot HK2.out hfr3 (l := [22]) (ho _ (by decide) (by decide) (by decide)) (by simp)).trans HK2.out)
    have HSN := Lib.hid (HSN2.out.fr hfr3 (ho _ (by decide) (by decide) (by decide)))
    have HBY := Lib.hid (HBY2.out.fr hfr3 (ho _ (by decide) (by decide) (by decide)))
    have HBS : Hid (BS M W W3) := Lib.hid (HBS2.out.trans (BS.fr hfr3 (Nat.le_trans HMW.out HBS2.out.size) (fun q hq => by
      have hg := HX2.out.fr.ge
      simp only [List.mem_cons, List.not_mem_nil, or_false] at hq
      rcases hq with rfl | rfl | rfl
      · exact ⟨hg.1, _, _, HX2.out.fr.blk, by decide⟩
      · exact ⟨hg.2.1, _, _, hcf, by decide⟩
      · exact ⟨hg.2.2, _, _, hct, by decide⟩)))
    have hS : W3.cell? ⟨B0, 0, none⟩ = some (.pointer (some ⟨S, 0, none⟩)) ∧ W3.cell? ⟨S, 0, none⟩ = some (.slice (some ⟨m1.fb, 0, none⟩) n m1.fc) ∧ W3.cell? ⟨S, 2, none⟩ = some (.pointer (some ⟨m1.g, 0, none⟩)) ∧ B0 < W3.heap.size ∧ S < W3.heap.size := ⟨cell_at HB0.out 0, HX3.out.c.c0, HX3.out.c.c2, HB0.out.lt, HX3.out.c.l⟩
    have HSS3 := Lib.hid hS
    have hsz : (fun k => hsz (fun k => (⟨sndK fl s1 k, 0⟩ : HdE)) k) = sndK fl s1 := rfl
    clear hS hp3 hx3 hfr3 hcf hct ho HX2 HK2 HSN2 HBY2 HBS2 HSS2 HPK
    go_wp2_with fail
    refine hK.out _ _ HSS3.out (fun hHeld => ?_)
    clear hK K
    try simp only [Act.put, List.setIfInBounds_toArray, List.set_cons_zero, List.set_cons_succ]
    ((refine wpAnyH_take (i := 12) (v := ?_) (by (simp only [List.getElem?_toArray, List.getElem?_cons_succ, List.getElem?_cons_zero]); rfl) (by kernel_rfl) (by kernel_rfl) (by kernel_rfl) (by exact fun _ _ _ h => h) (Or.inl ⟨by rfl, ?_⟩) (by assumption) ?_); rotate_left; focus (intro wS hSw; (try dsimp only at hSw); go_simp; first | done | with_reducible rfl); try simp only [Act.put, List.setIfInBounds_toArray, List.set_cons_zero, List.set_cons_succ])
    ((refine wpAnyH_take (i := 13) (v := ?_) (by (simp only [List.getElem?_toArray, List.getElem?_cons_succ, List.getElem?_cons_zero]); rfl) (by kernel_rfl) (by kernel_rfl) (by kernel_rfl) (by exact fun _ _ _ h => h) (Or.inl ⟨by rfl, ?_⟩) (by assumption) ?_); rotate_left; focus (intro wS hSw; (try dsimp only at hSw); go_simp; first | done | with_reducible rfl); try simp only [Act.put, List.setIfInBounds_toArray, List.set_cons_zero, List.set_cons_succ])
    ((refine wpAnyH_take (i := 14) (v := ?_) (by (simp only [List.getElem?_toArray, List.getElem?_cons_succ, List.getElem?_cons_zero]); rfl) (by kernel_rfl) (by kernel_rfl) (by kernel_rfl) (by exact fun _ _ _ h => h) (Or.inl ⟨by rfl, ?_⟩) (by assumption) ?_); rotate_left; focus (intro wS hSw; (try dsimp only at hSw); go_simp; first | done | with_reducible rfl); try simp only [Act.put, List.setIfInBounds_toArray, List.set_cons_zero, List.set_cons_succ])
    ((refine wpAnyH_take (i := 15) (v := ?_) (by (simp only [List.getElem?_toArray, List.getElem?_cons_succ, List.getElem?_cons_zero]); rfl) (by kernel_rfl) (by kernel_rfl) (by kernel_rfl) (by exact fun _ _ _ h => h) (Or.inl ⟨by rfl, ?_⟩) (by assumption) ?_); rotate_left; focus (intro wS hSw; (try dsimp only at hSw); go_simp; first | done | with_reducible rfl); try simp only [Act.put, List.setIfInBounds_toArray, List.set_cons_zero, List.set_cons_succ])
    ((refine wpAnyH_take (i := 16) (v := ?_) (by (simp only [List.getElem?_toArray, List.getElem?_cons_succ, List.getElem?_cons_zero]); rfl) (by kernel_rfl) (by kernel_rfl) (by kernel_rfl) (by exact fun _ _ _ h => h) (Or.inl ⟨by rfl, ?_⟩) (by assumption) ?_); rotate_left; focus (intro wS hSw; (try dsimp only at hSw); go_simp; first | done | with_reducible rfl); try simp only [Act.put, List.setIfInBounds_toArray, List.set_cons_zero, List.set_cons_succ])
    refine wpAnyH_done (by kernel_rfl) ?_ _
    try simp only [Act.put, List.setIfInBounds_toArray, List.set_cons_zero, List.set_cons_succ]
    clear HSS3 hsz
    cases hpc : pkK n (gI (wL fl n)) (alF fl n) (sndK fl s1) s1.fs with
    | none =>
      have HPX : Hid (PR = (⟨pkS n (gI (wL fl n)) (alF fl n) (sndK fl s1) s1.fs, s1.q, s1.tok, s1.bud, s1.num⟩, O)) := Lib.hid (by rw [HPX.out, pumpF_none (by have := HBD.out; omega) hpc, List.append_nil])
      clear hpc HPI
      simp only [kI, Option.isSome_none]
      have hc := HX3.out.c
      have cb : W3.cell? ⟨S, 20, none⟩ = some (.int .i64 s1.bud) := hc.cb
      have cl := hc.l
      have cz := hc.z
      have cB : W3.cell? ⟨B0, 0, none⟩ = some (.pointer (some ⟨S, 0, none⟩)) := cell_at HB0.out 0
      have cBl := HB0.out.lt
      obtain ⟨v9, hv9⟩ : ∃ v, v = min s1.bud 0 := ⟨_, rfl⟩
      obtain ⟨W9, hW9⟩ : ∃ X, X = (W3.setCell ⟨S, 20, none⟩ (.int .i64 v9)).drew := ⟨_, rfl⟩
      have h9 := HX3.out.budset (v := v9) (by have : -1500 ≤ s1.bud ∧ s1.bud ≤ 1048576 := HX3.out.bd; omega) rfl
      have hf9 : Fr [S] W3 W9 := by rw [hW9]; exact h9.2.drew
      have HEND : Hid (SnO W9 W.heap.size (.slice sa O.length sc) ob1 O ∧ BsO W9 W.heap.size (.slice ta O.length tc) ob2 O ∧ ShAt W9 M S fl n c { m1 with ft := ft', c2 := c' } (pumpS fl n b s).1 ∧ BS M W W9 ∧ (pumpS fl n b s).2 = O) := Lib.hid (by
        rw [HPS.out, HPX.out]
        refine ⟨HSN.out.fr hf9 (ot_one HX3.out.blk (by decide)), HBY.out.fr hf9 (ot_one HX3.out.blk (by decide)), ?_, HBS.out.trans (BS.fr hf9 (Nat.le_trans HMW.out HBS.out.size) (by simpa using ⟨HX3.out.ge, _, _, HX3.out.blk, by decide⟩)), rfl⟩
        have := h9.1.step ((Below.refl _ _).drew)
        rw [← hW9, hv9] at this
        exact this)
      clear h9 hf9 hc HB0 HSN HBY HBS HPS HPX
      go_wp2_with fail
      go_region
      rw [← hv9, ← hW9]
      clear hW9 hv9 cb cl cz cB cBl
      go_wp2_with fail
      try rw [Exit.noGoto_ret]
      go_ret2
      exact ⟨_, _, ob1, ob2, _, rfl, by rw [HEND.out.2.2.2.2]; exact HEND.out.1, by rw [HEND.out.2.2.2.2]; exact HEND.out.2.1, HEND.out.2.2.1, HEND.out.2.2.2.1⟩
    | some k =>
      obtain ⟨hk, hz⟩ := HPI.out.2 k hpc
      obtain ⟨p, r, hq, hle⟩ := snd_pos hz
      have hqt := (HX3.out.q.qt k hk p (by show p ∈ s1.q k; rw [hq]; simp)).1
      have hup := totL_up hq hk
      have HPF : Hid (PR = ((pumpF fl n (totL (upf s1.q k r) n + 1) (letS s1 (pkS n (gI (wL fl n)) (alF fl n) (sndK fl s1) s1.fs) k p r)).1, (O ++ [(k, p)]) ++ (pumpF fl n (totL (upf s1.q k r) n + 1) (letS s1 (pkS n (gI (wL fl n)) (alF fl n) (sndK fl s1) s1.fs) k p r)).2)) := Lib.hid (by rw [HPX.out, ← hup, pumpF_some (by have := HBD.out; omega) hpc hq, List.append_assoc]; rfl)
      have HLL : Hid ((O ++ [(k, p)]).length + totL (upf s1.q k r) n = T0 ∧ O.length ≤ 512) := Lib.hid (by have := HLO.out; have := HT0.out.1; rw [List.length_append]; simp; omega)
      have hLT := let_any W3 M S fl n c _ _ HX3.out HF.out k hk p r hq (by rw [hqt]; exact hle) HBD.out
      unfold sentV at hLT
      have LT := Lib.hid hLT
      clear hLT
      have cB : W3.cell? ⟨B0, 0, none⟩ = some (.pointer (some ⟨S, 0, none⟩)) := cell_at HB0.out 0
      have cBl := HB0.out.lt
      have HK := Lib.hid hk
      clear hpc HPI hz hle hqt hup hq hk HPX HLO
      simp only [kI, Option.isSome_some]
      go_wp2_with fail
      go_at_call 30
      go_fit LT.out
      rintro e W6 ⟨vb, ob, m6, rfl, hrow, hob, h6, hf6⟩
      obtain ⟨va, vc, rfl, _, _, hva⟩ := hrow.shape
      obtain rfl : va = some ⟨ob, 0, none⟩ := hva
      have ho : ∀ l : List TypeId, 64 ∉ l → 91 ∉ l → 53 ∉ l → OT W3 [S, m1.D k, m1.R k] l := fun l h1 h2 h3 => by
        obtain ⟨cr, hcr⟩ := (HX3.out.q.qs k HK.out).rblk
        exact ot_cons HX3.out.blk h1 (ot_cons (HX3.out.q.qs k HK.out).own h2 (ot_one hcr h3))
      have HB6 : Hid (Blk W6 B0 #[.pointer (some ⟨S, 0, none⟩)] 22) := Lib.hid ((blk_ot HB0.out hf6 (l := [22]) (ho _ (by decide) (by decide) (by decide)) (by simp)).trans HB0.out)
      have hsn6 := HSN.out.fr hf6 (ho _ (by decide) (by decide) (by decide))
      have hby6 := HBY.out.fr hf6 (ho _ (by decide) (by decide) (by decide))
      have HBS6 : Hid (BS M W W6) := Lib.hid (HBS.out.trans (BS.fr hf6 (Nat.le_trans HMW.out HBS.out.size) (fun q hq => by
        obtain ⟨cr, hcr⟩ := (HX3.out.q.qs k HK.out).rblk
        have hg := HX3.out.q.ge k HK.out
        simp only [List.mem_cons, List.not_mem_nil, or_false] at hq
        rcases hq with rfl | rfl | rfl
        · exact ⟨HX3.out.ge, _, _, HX3.out.blk, by decide⟩
        · exact ⟨hg.1, _, _, (HX3.out.q.qs k HK.out).own, by decide⟩
        · exact ⟨hg.2, _, _, hcr, by decide⟩)))
      have hW3 : W.heap.size ≤ W3.heap.size := HBS.out.size
      have hW6s : W.heap.size ≤ W6.heap.size := HBS6.out.size
      obtain ⟨N7, hN7⟩ : ∃ N, N = W6.heap.size := ⟨_, rfl⟩
      obtain ⟨W7, hW7⟩ : ∃ X, X = W6.alloc (.cells #[.int .i64 0, .int .i64 0, .int .i64 p.t, .int .i64 (k : Nat), .int .i64 p.sz, .int .i64 p.num] 46) := ⟨_, rfl⟩
      have hB7 : Below W6.heap.size W6 W7 := by rw [hW7]; exact alloc_b _ _
      have hk7 : Blk W7 N7 #[.int .i64 0, .int .i64 0, .int .i64 p.t, .int .i64 (k : Nat), .int .i64 p.sz, .int .i64 p.num] 46 := by rw [hW7, hN7]; exact blk_new _ _ _
      have hB8 : Below W7.heap.size W7 (W7.alloc (.cells #[.int .i64 0, .int .i64 0, .int .i64 p.t, .int .i64 (k : Nat), .int .i64 p.sz, .int .i64 p.num] 46)) := alloc_b _ _
      have hk8 : Blk (W7.alloc (.cells #[.int .i64 0, .int .i64 0, .int .i64 p.t, .int .i64 (k : Nat), .int .i64 p.sz, .int .i64 p.num] 46)) W7.heap.size (sentV k p) 46 := blk_new _ _ _
      have hsn8 := (hsn6.step hB7).step hB8
      have hby8 := (hby6.step hB7).step hB8
      obtain ⟨v9, o9, W9, hrun9, hsn9, hf9, hB9⟩ := sn_grow (M := W.heap.size) (ty := 27) hsn8 hk8 (by have := hB7.size; have := hB8.size; omega) (by have := HLL.out.2; omega)
      have HRUN9 := Lib.hid hrun9
      have ho9 : ∀ l : List TypeId, 46 ∉ l → OT _ ob1.toList l := fun l h1 => ot_row hsn8.row h1
      have hby9 := hby8.fr hf9 (ho9 _ (by decide))
      have hrow9 := row_ot (l := [5]) (row_ot (l := [5]) (row_ot (l := [5]) hrow (Fr.of_below hB7) (ot_nil _ _) (by simp)) (Fr.of_below hB8) (ot_nil _ _) (by simp)) hf9 (ho9 _ (by decide)) (by simp)
      have hx9 := ((h6.step hB7).step hB8).ot hf9 (ho9 _ (by decide))
      have hb9 := (blk_ot ((HB6.out.step hB7).step hB8) hf9 (l := [22]) (ho9 _ (by decide)) (by simp)).trans ((HB6.out.step hB7).step hB8)
      have hbs9 := ((HBS6.out.trans (BS.new hB7 (by have := HMW.out; omega))).trans (BS.new hB8 (by have := HMW.out; have := hB7.size; omega))).own hf9 (fun q hq => by
        cases ob1 with
        | none => simp at hq
        | some g =>
          obtain rfl : q = g := by simpa using hq
          exact hsn8.ge _ rfl) HMW.out
      have hB10 : Below W9.heap.size W9 (W9.alloc (.cells #[.slice (some ⟨ob, 0, none⟩) (8 + p.n) vc] 42)) := alloc_b _ _
      have hk10 : Blk (W9.alloc (.cells #[.slice (some ⟨ob, 0, none⟩) (8 + p.n) vc] 42)) W9.heap.size #[.slice (some ⟨ob, 0, none⟩) (8 + p.n) vc] 42 := blk_new _ _ _
      have hby10 := hby9.step hB10
      have hrow10 := row_ot (l := [5]) hrow9 (Fr.of_below hB10) (ot_nil _ _) (by simp)
      obtain ⟨v11, o11, W11, hrun11, hby11, hf11, hB11⟩ := bs_grow (M := W.heap.size) (k := k) (p := p) (ty := 28) hby10 hk10 hrow10 (by omega) (by have := hbs9.size; have := hB10.size; omega) (by have := HLL.out.2; omega)
      have HRUN11 := Lib.hid hrun11
      have ho11 : ∀ l : List TypeId, 42 ∉ l → OT _ ob2.toList l := fun l h1 => by
        obtain ⟨vs, hr, _⟩ := hby10.ex
        exact ot_row hr h1
      have hsn11 := (hsn9.step hB10).fr hf11 (ho11 _ (by decide))
      have hx11 := (hx9.step hB10).ot hf11 (ho11 _ (by decide))
      have hb10 : Blk _ B0 #[.pointer (some ⟨S, 0, none⟩)] 22 := Blk.step hb9 hB10
      have hb11 := (blk_ot hb10 hf11 (l := [22]) (ho11 _ (by decide)) (by simp)).trans hb10
      have hbs11 := (hbs9.trans (BS.new hB10 (by have := HMW.out; have := hbs9.size; omega))).own hf11 (fun q hq => by
        cases ob2 with
        | none => simp at hq
        | some g =>
          obtain rfl : q = g := by simpa using hq
          exact hby10.ge _ rfl) HMW.out
      have HEND : Hid (SnO W11 W.heap.size v9 (some o9) (O ++ [(k, p)]) ∧ BsO W11 W.heap.size v11 (some o11) (O ++ [(k, p)]) ∧ ShAt W11 M S fl n c m6 (letS s1 (pkS n (gI (wL fl n)) (alF fl n) (sndK fl s1) s1.fs) k p r) ∧ BS M W W11 ∧ Blk W11 B0 #[.pointer (some ⟨S, 0, none⟩)] 22) := Lib.hid ⟨hsn11, hby11, hx11, hbs11, hb11⟩
      obtain ⟨a9, c9, rfl, _, _, hva9⟩ := hsn11.row.shape
      obtain ⟨a11, c11, rfl, _, _, hva11⟩ : ∃ a c, _ := hby11.ex.choose_spec.1.shape
      have HLN : Hid ((O ++ [(k, p)]).length = O.length + 1) := Lib.hid (by simp)
      have x0 : W7.cell? ⟨N7, 0, none⟩ = some (.int .i64 0) := cell_at hk7 0
      have x1 : W7.cell? ⟨N7, 1, none⟩ = some (.int .i64 0) := cell_at hk7 1
      have x2 : W7.cell? ⟨N7, 2, none⟩ = some (.int .i64 p.t) := cell_at hk7 2
      have x3 : W7.cell? ⟨N7, 3, none⟩ = some (.int .i64 (k : Nat)) := cell_at hk7 3
      have x4 : W7.cell? ⟨N7, 4, none⟩ = some (.int .i64 p.sz) := cell_at hk7 4
      have x5 : W7.cell? ⟨N7, 5, none⟩ = some (.int .i64 p.num) := cell_at hk7 5
      have xl := hk7.lt
      clear hrow hob h6 hf6 ho hsn6 hby6 hW3 hW6s hB7 hk7 hB8 hk8 hsn8 hby8 hrun9 hsn9 hf9 hB9 ho9 hby9 hrow9 hx9 hb9 hbs9 hB10 hk10 hby10 hrow10 hrun11 hby11 hf11 hB11 ho11 hsn11 hx11 hb10 hb11 hbs11 hva9 hva11 HB0 HSN HBY HBS HX3 HB6 HBS6 LT cB cBl
      go_upto_region 11 with fail
      rw [← hN7, ← hW7]
      clear hN7 hW7
      go_wp2_with (first
        | (at_builtin; refine Lib.wpList_append_run _ rfl (.tmp 56) (.tmp 58) 27 27 rfl _ _ rfl rfl _ _ HRUN9.out ?_)
        | (at_builtin; refine Lib.wpList_append_run _ rfl (.tmp 60) (.tmp 62) 28 28 rfl _ _ rfl rfl _ _ HRUN11.out ?_))
      go_roundw
      case rel => exact ⟨_, m6, O ++ [(k, p)], some o9, some o11, by have h1 := HEND.out.1; rw [show (O ++ [(k, p)]).length = O.length + 1 by simp] at h1; exact h1, by have h1 := HEND.out.2.1; rw [show (O ++ [(k, p)]).length = O.length + 1 by simp] at h1; exact h1, HEND.out.2.2.1, HEND.out.2.2.2.1, HEND.out.2.2.2.2, HLL.out.1, HPF.out⟩
      case measure => (have h1 := HLN.out; have h3 := HLL.out.1; simp only [slLen]; omega)
end Go.Proofs.Ytoodmocapagapaa
