/-
  The document's Push.
-/
import Derived.Test.YtninhjeiialbjaaPl3
namespace Go.Proofs.Ytninhjeiialbjaa
open Go.RowKit
set_option linter.unusedSimpArgs false
set_option linter.unusedVariables false

theorem dN (w : World) (n : Nat) : Below w.heap.size w (w.drewN n) := ⟨rfl, rfl, rfl, Nat.le_refl _, fun _ _ => rfl⟩

set_option maxRecDepth 100000 in
set_option maxHeartbeats 4000000 in
theorem rpush_long (D : Nat) (num t c : Int) (a : Option Addr) (ln ca : Nat) (w : World) (h : 1492 < ln) (h2 : ln ≤ 4611686018427387904) :
    Calls Try.prog 73 #[.pointer (some ⟨D, 0, none⟩), .agg #[.int .i64 num, .int .i64 t, .int .i64 c, .slice a ln ca]] w fun e w' => e = .returned (.int .i64 2) ∧ Below w.heap.size w w' := by
  have s1 : IntKind.i64.wrap (8 + (ln : Int)) = 8 + ln := IntWalk.i64_in _ (by omega)
  have d1 : decide ((1500 : Int) < 8 + ln) = true := by simp; omega
  go_enter Try.func73, Try.ntmps73
  go_wp2_with fail
  go_ret
  exact ⟨rfl, (Below.refl _ _).alloc (Nat.le_refl _) _⟩

set_option maxRecDepth 100000 in
set_option maxHeartbeats 4000000 in
theorem rpush_full (D : Nat) (room : Int) (n : Nat) (lost : Int) (ob : Option Nat) (v : Value) (E : Nat → PkE) (num t c : Int) (a : Option Addr) (ln ca : Nat) (w : World) (hq : RQ w D room n lost ob v E) (h14 : ln ≤ 1492) (hn : room ≤ n) (hlo : 0 ≤ lost ∧ lost ≤ 1000000) :
    Calls Try.prog 73 #[.pointer (some ⟨D, 0, none⟩), .agg #[.int .i64 num, .int .i64 t, .int .i64 c, .slice a ln ca]] w fun e w' => e = .returned (.int .i64 100) ∧ RQ w' D room n (lost + 1) ob v E ∧ Fr [D] w w' := by
  obtain ⟨va, vc, rfl, hnc, hcm⟩ := hq.shape
  have s1 : IntKind.i64.wrap (8 + (ln : Int)) = 8 + ln := IntWalk.i64_in _ (by omega)
  have d1 : decide ((1500 : Int) < 8 + ln) = false := by simp; omega
  have d2 : decide (room ≤ (n : Int)) = true := by simpa using hn
  have s2 : IntKind.i64.wrap (lost + 1) = lost + 1 := IntWalk.i64_in _ (by omega)
  obtain ⟨W1, hW1⟩ : ∃ W1, W1 = w.alloc (.cells #[.int .i64 num, .int .i64 t, .int .i64 c, .slice a ln ca] 57) := ⟨_, rfl⟩
  have hB1 : Below w.heap.size w W1 := by rw [hW1]; exact (Below.refl _ _).alloc (Nat.le_refl _) _
  obtain ⟨N, hN⟩ : ∃ N, N = w.heap.size := ⟨_, rfl⟩
  have hp : Blk W1 N #[.int .i64 num, .int .i64 t, .int .i64 c, .slice a ln ca] 57 := by rw [hW1, hN]; exact blk_new _ _ _
  have p3 : W1.cell? ⟨N, 3, none⟩ = some (.slice a ln ca) := cell_at hp 3
  have HQ1 := Lib.hid (hq.below hB1)
  have HB1 := Lib.hid hB1
  have q0 : W1.cell? ⟨D, 0, none⟩ = some (.int .i64 room) := cell_at HQ1.out.own 0
  have q1 : W1.cell? ⟨D, 1, none⟩ = some (.slice va n vc) := cell_at HQ1.out.own 1
  have q2 : W1.cell? ⟨D, 2, none⟩ = some (.int .i64 lost) := cell_at HQ1.out.own 2
  have z2 := free_at HQ1.out.own 2
  have hD : D < W1.heap.size := HQ1.out.own.lt
  clear hq hB1 hp
  go_enter Try.func73, Try.ntmps73
  go_upto_region 1 with fail
  rw [← hN, ← hW1]
  clear hN hW1
  go_wp2_with fail
  go_quiet (fail)
  go_wp2_with fail
  go_ret
  exact ⟨rfl, (HQ1.out.below (dN _ _)).lost _, ((Fr.mono (l' := [D]) (Fr.of_below HB1.out) (by intro x hx; cases hx)).drewN _).setCell ⟨D, 2, none⟩ (.inl (by simp)) _⟩

theorem infoPkt4 : (Try.prog.info? 57).map (fun i => (i.zero, i.size, i.bytes)) = some (some (.agg #[.int .i64 0, .int .i64 0, .int .i64 0, .slice none 0 0]), 4, 48) := by kernel_rfl

/-- one more: the row has grown, the packet's load is apart -/
theorem RQ.push {W2 W3 W4 : World} {D : Nat} {room : Int} {n : Nat} {lost : Int} {ob : Option Nat} {v : Value} {E : Nat → PkE} (h : RQ W2 D room n lost ob v E) {y : PkE} (hy : ByIn W2 y.a y.n y.ca y.b y.o y.X) (hl : y.n ≤ 1492) (hyD : 0 < y.n → y.b ≠ D) (hyo : 0 < y.n → ob ≠ some y.b)
    {v' : Value} {ob' : Nat} (hr : RowO W3 v' (some ob') 57 4 (n + 1) (pL E n ++ y.cells)) (hg : W2.grownBy W3 ob) (ho : ob = some ob' ∨ W2.heap.size ≤ ob') (hW : W4 = W3.setCell ⟨D, 1, none⟩ v') : RQ W4 D room (n + 1) lost (some ob') v' (putE E n y) := by
  have hD := h.own.lt
  have hne : ob' ≠ D := by
    rcases ho with e | e
    · exact fun k => h.ne (by rw [e, k])
    · omega
  have hown : Blk W3 D #[.int .i64 room, v, .int .i64 lost] 70 := (hg.block D hD (fun e => h.ne e.symm)).trans h.own
  have hby : ∀ x : PkE, ByIn W2 x.a x.n x.ca x.b x.o x.X → (0 < x.n → x.b ≠ D) → (0 < x.n → ob ≠ some x.b) → ByIn W4 x.a x.n x.ca x.b x.o x.X := fun x hx h1 h2 => by
    have h3 : ByIn W3 x.a x.n x.ca x.b x.o x.X := ⟨hx.le, hx.max, fun hk => ⟨(hx.at_ hk).1, by have := (hx.at_ hk).2; have := hg.size; omega⟩, fun k hk => by
      have hb := (hx.at_ (by omega)).2
      exact (cell_congr (hg.block x.b hb (fun e => h2 (by omega) e.symm)) _).trans (hx.cell k hk), hx.bd⟩
    rw [hW]
    exact h3.ne ⟨D, 1, none⟩ h1 _
  have hap : ∀ x : PkE, ByIn W2 x.a x.n x.ca x.b x.o x.X → (0 < x.n → ob ≠ some x.b) → 0 < x.n → some ob' ≠ some x.b := fun x hx hxa hd e => by
    have hb := (hx.at_ hd).2
    rcases ho with h1 | h1
    · exact hxa hd (h1.trans e)
    · obtain rfl := Option.some.inj e; omega
  have hat : ∀ j, j < n + 1 → (putE E n y j = y ∧ j = n) ∨ (putE E n y j = E j ∧ j < n) := fun j hj => by
    unfold putE
    split
    · next e => exact .inl ⟨rfl, e⟩
    · exact .inr ⟨rfl, by omega⟩
  refine ⟨?_, ?_, fun e => hne (Option.some.inj e), fun j hj => ?_, fun j hj => ?_, fun j hj hd => ?_⟩
  · rw [hW]; exact hown.set 1 v'
  · have e1 : pL (putE E n y) (n + 1) = pL E n ++ y.cells := by
      rw [pL_succ, pL_congr (E' := E) (fun k hk => by unfold putE; rw [if_neg (by omega)])]
      unfold putE
      rw [if_pos rfl]
    rw [e1, hW]
    exact hr.congr fun g hg' => heap_setCell_ne _ _ _ _ (by obtain rfl := Option.some.inj hg'; exact hne)
  · rcases hat j hj with ⟨e, _⟩ | ⟨e, hj'⟩
    · rw [e]; exact hby y hy hyD hyo
    · rw [e]; exact hby _ (h.ld j hj') (fun hp => (h.d j hj' hp).1) (fun hp => (h.d j hj' hp).2)
  · rcases hat j hj with ⟨e, _⟩ | ⟨e, hj'⟩
    · rw [e]; exact hl
    · rw [e]; exact h.le j hj'
  · rcases hat j hj with ⟨e, _⟩ | ⟨e, hj'⟩
    · rw [e] at hd ⊢; exact ⟨hyD hd, hap y hy hyo hd⟩
    · rw [e] at hd ⊢; exact ⟨(h.d j hj' hd).1, hap _ (h.ld j hj') (fun hp => (h.d j hj' hp).2) hd⟩
end Go.Proofs.Ytninhjeiialbjaa
