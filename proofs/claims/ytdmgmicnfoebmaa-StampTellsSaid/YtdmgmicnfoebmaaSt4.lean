/-
  The law StampTells, walked.
-/
import Derived.Test.YtdmgmicnfoebmaaSt2
import Derived.Test.YtdmgmicnfoebmaaDt
import Derived.Deep.DeepCutAuto
namespace Go.Proofs.Ytdmgmicnfoebmaa
open Go.RowKit

/-- Numbers that came in. -/
structure IntsIn (W : World) (a : Option Addr) (len cap : Nat) (b o : Nat) (T : Nat → Int) : Prop where
  le : len ≤ cap
  max : cap ≤ maxLen
  at_ : 0 < len → a = some ⟨b, o, none⟩ ∧ b < W.heap.size
  cell : ∀ k, k < len → W.cell? ⟨b, o + k, none⟩ = some (.int .i64 (T k))
  bd : ∀ k, k < len → -9223372036854775808 ≤ T k ∧ T k ≤ 9223372036854775807

theorem ints_cells (W : World) {a : Option Addr} {len cap : Nat} {xs : List Dt} (h : SliceFits Try.prog W 3 a len cap xs) : ∃ (b o : Nat) (T : Nat → Int), IntsIn W a len cap b o T := by
  have hc : Try.prog.cellsOf 3 = 1 := by kernel_rfl
  obtain ⟨b, o, h1, h2⟩ := h.spot (by rw [hc]; omega)
  have hex : ∀ k, ∃ q : Int, k < len → W.cell? ⟨b, o + k, none⟩ = some (.int .i64 q) ∧ -9223372036854775808 ≤ q ∧ q ≤ 9223372036854775807 := fun k => by
    by_cases hk : k < len
    · have hl := h.length
      have hx := List.getElem?_eq_getElem (l := xs) (i := k) (by omega)
      obtain ⟨n0, e0, g0⟩ := (h.each k _ hx).1.int_inv Try.underlying3
      have hcell := h2 k _ hx
      rw [e0, hc] at hcell
      exact ⟨n0, fun _ => ⟨by have := hcell 0 _ rfl; rwa [Nat.mul_one] at this, g0.1, g0.2⟩⟩
    · exact ⟨0, fun h => absurd h hk⟩
  have hg := fun k => Classical.choose_spec (hex k)
  exact ⟨b, o, fun k => Classical.choose (hex k), h.le, h.max, h1, fun k hk => (hg k hk).1, fun k hk => (hg k hk).2⟩

theorem IntsIn.below {W W' : World} {a : Option Addr} {len cap b o : Nat} {T : Nat → Int} (h : IntsIn W a len cap b o T) (hB : Below W.heap.size W W') : IntsIn W' a len cap b o T :=
  ⟨h.le, h.max, fun hk => ⟨(h.at_ hk).1, by have := (h.at_ hk).2; have := hB.size; omega⟩, fun k hk => (hB.cell (p := ⟨b, _, none⟩) (h.at_ (by omega)).2).trans (h.cell k hk), h.bd⟩

theorem cell_of_blk {W W' : World} {b : Nat} (h : W'.heap[b]? = W.heap[b]?) (o : Nat) : W'.cell? ⟨b, o, none⟩ = W.cell? ⟨b, o, none⟩ := by simp [World.cell?, h]

theorem st_cases (rho now : Int) : StOk rho now ∨ StBad rho now := by unfold StOk StBad; omega

set_option maxRecDepth 100000 in
set_option maxHeartbeats 1000000 in
theorem stampTells_out (rho now : Int) (a : Option Addr) (len cap : Nat) (hcap : len ≤ cap) (hmax : cap ≤ maxLen) (w : World) (hg : 200 < len ∨ (len ≤ 200 ∧ StBad rho now)) :
    Calls Try.prog 7 #[.int .i64 rho, .int .i64 now, .slice a len cap] w fun e w' => e = .returned (.bool true) ∧ Below w.heap.size w w' := by
  unfold maxLen at hmax
  rcases hg with h | ⟨h1, h⟩
  · go_enter Try.func7, Try.ntmps7
    go_wp2_with (go_at_call 27; refine (swakes_any _).mono ?_; rintro e w1 ⟨rfl, hB1⟩)
    go_ret
    exact ⟨rfl, hB1⟩
  · go_enter Try.func7, Try.ntmps7
    go_wp2_with (first
      | (go_at_call 28; refine (snew_bad _ _ h _).mono ?_; rintro e w' ⟨rfl, rfl⟩)
      | (go_at_call 29; refine (srnew_bad _ _ h _).mono ?_; rintro e w' ⟨rfl, rfl⟩))
    go_loop [11] (fun v => v = .int .i64 0) (fun _ => 0)
    case atStart => rfl
    case round =>
      subst hrel
      by_cases hz : len = 0
      · go_wp2_with (first
          | (go_at_call 30; refine (at_nil _ _).mono ?_; rintro e w' ⟨rfl, rfl⟩)
          | (go_at_call 32; refine (last_nil _).mono ?_; rintro e w' ⟨rfl, rfl⟩)
          | (go_at_call 27; refine (swakes_any _).mono ?_; rintro e w1 ⟨rfl, hB1⟩))
        go_ret
        exact ⟨rfl, hB1⟩
      · have hz1 : 0 < len := by omega
        go_wp2_with (first
          | (go_at_call 30; refine (at_nil _ _).mono ?_; rintro e w' ⟨rfl, rfl⟩)
          | (go_at_call 32; refine (last_nil _).mono ?_; rintro e w' ⟨rfl, rfl⟩)
          | (go_at_call 27; refine (swakes_any _).mono ?_; rintro e w1 ⟨rfl, hB1⟩))
        go_ret
        exact ⟨rfl, hB1⟩

set_option maxRecDepth 100000 in
set_option maxHeartbeats 4000000 in
theorem stampTells_in (rho now : Int) (a : Option Addr) (len cap gb go : Nat) (T : Nat → Int) (w : World) (hok : StOk rho now) (hl : len ≤ 200) (hs : IntsIn w a len cap gb go T) :
    Calls Try.prog 7 #[.int .i64 rho, .int .i64 now, .slice a len cap] w fun e w' => e = .returned (.bool true) ∧ Below w.heap.size w w' := by
  have HS := Lib.hid hs
  have hcap := hs.le
  obtain ⟨r0, r1, n0, n1⟩ := id hok
  clear hs
  go_enter Try.func7, Try.ntmps7
  go_wp2_with (first
    | (go_at_call 28; refine (snew_ok _ _ hok _).mono ?_; rintro e w' ⟨rfl, rfl⟩)
    | (go_at_call 29; refine (srnew_ok _ _ hok _).mono ?_; rintro e w' ⟨rfl, rfl⟩))
  go_loopw [11] (fun vi wr => ∃ (k : Nat) (last : Int), k ≤ len ∧ vi = .int .i64 k ∧ StAt wr w.heap.size now rho last ∧ RsAt wr (w.heap.size + 1) now rho last ∧ Below w.heap.size w wr) (fun vi _ => len - (intOf vi).toNat)
  case atStart => exact ⟨0, 0, Nat.zero_le _, rfl, (Below.heap_alloc _ _ _ (by simp)).trans (heap_alloc_new w _), (by have h := heap_alloc_new (w.alloc (.cells #[.int .i64 now, .int .i64 rho, .int .i64 0] 87 (0, 0))) (.cells #[.int .i64 rho, .int .i64 now, .int .i64 0] 53 (0, 0)); simp only [World.size_alloc, Array.size_push, World.alloc] at h ⊢; exact h), ((Below.refl _ _).alloc (Nat.le_refl _) _).alloc (by simp) _⟩
  case round =>
    obtain ⟨k, last, hk, rfl, hst, hrs, hB⟩ := hrel
    by_cases hlt : k < len
    · obtain ⟨e0, e1⟩ := HS.out.at_ (by omega)
      have c0 := (HS.out.below hB).cell k hlt
      subst e0
      have hz1 := lt_of_block hrs
      have HST := Lib.hid hst
      have HRS := Lib.hid hrs
      have hwz := hB.size
      have hgb : gb < wr.heap.size := by omega
      clear hst hrs
      rcases (show AtBad now (T k) ∨ (now ≤ T k ∧ T k ≤ 1125899906842624) by unfold AtBad; omega) with hb | ⟨hb, hb2⟩
      · have HLAST : ∀ W, StAt W w.heap.size now rho last → Calls Try.prog 32 #[.pointer (some ⟨w.heap.size, 0, none⟩)] W fun e w' => e = .returned (.int .i64 last) ∧ W = w' := fun W h => slast_any _ _ _ _ _ h
        go_wp2_with (first
          | (go_at_call 30; refine (at_bad w.heap.size now rho last (T k) _ HST.out hb).mono ?_; rintro e w' ⟨rfl, rfl⟩)
          | (go_at_call 31; refine (rat_bad (w.heap.size + 1) now rho last (T k) _ HRS.out hb).mono ?_; rintro e w' ⟨rfl, rfl⟩))
        have d2 : wr.cell? ⟨w.heap.size + 1, 2, none⟩ = some (.int .i64 last) := cell_at HRS.out 2
        go_quiet ((go_at_call 32; refine quietQ (slast_any w.heap.size now rho last _ HST.out)))
        all_goals
          go_wp2_with fail
          go_roundw
          case rel => exact ⟨k + 1, last, by omega, by go_num, HST.out, HRS.out, by first | exact belowN hB _ | exact hB.drew | exact hB⟩
          case measure => simp [intOf]; omega
      · obtain ⟨m, hm⟩ : ∃ m, m = atS now rho last (T k) := ⟨_, rfl⟩
        have hat : ∀ W, StAt W w.heap.size now rho last → Calls Try.prog 30 #[.pointer (some ⟨w.heap.size, 0, none⟩), .int .i64 (T k)] W fun e w' => e = .returned (.tuple #[.int .i64 m, .int .i64 0]) ∧ Fr [w.heap.size] W w' ∧ StAt w' w.heap.size now rho m := fun W h => by rw [hm]; exact at_good _ _ _ _ _ _ h n0 hb hb2
        have hrat : ∀ W, RsAt W (w.heap.size + 1) now rho last → Calls Try.prog 31 #[.pointer (some ⟨w.heap.size + 1, 0, none⟩), .int .i64 (T k)] W fun e w' => e = .returned (.tuple #[.int .i64 m, .int .i64 0]) ∧ Fr [w.heap.size + 1] W w' ∧ RsAt w' (w.heap.size + 1) now rho m := fun W h => by rw [hm]; exact rat_good _ _ _ _ _ _ h n0 hb hb2
        clear hm
        go_wp2_with (first
          | (go_at_call 30; refine (hat _ HST.out).mono ?_; rintro e W1 ⟨rfl, hf1, k1⟩; have c1 := (cell_of_blk (hf1.block gb hgb (by simp; omega)) (go + k)).trans c0; have hz2 := hf1.size)
          | (go_at_call 31; refine (hrat _ ((hf1.block _ hz1 (by simp)).trans HRS.out)).mono ?_; rintro e W2 ⟨rfl, hf2, k2⟩; have k1' := (hf2.block w.heap.size (by omega) (by simp)).trans k1))
        have d2 : W2.cell? ⟨w.heap.size + 1, 2, none⟩ = some (.int .i64 m) := cell_at k2 2
        have K1' := Lib.hid k1'
        have K2 := Lib.hid k2
        have HBW := Lib.hid (hB.trans ((hf1.below hwz (by simp)).trans (hf2.below (by omega) (by simp))))
        clear k1 k1' k2 hf1 hf2 c0 c1
        go_quiet ((go_at_call 32; refine quietQ (slast_any w.heap.size now rho m _ K1'.out)))
        all_goals
          go_wp2_with fail
          go_roundw
          case rel => exact ⟨k + 1, m, by omega, by go_num, K1'.out, K2.out, by first | exact belowN HBW.out _ | exact HBW.out.drew | exact HBW.out⟩
          case measure => simp [intOf]; omega
    · obtain rfl : k = len := by omega
      go_wp2_with (first
        | (go_at_call 30; refine (at_nil _ _).mono ?_; rintro e w' ⟨rfl, rfl⟩)
        | (go_at_call 32; refine (last_nil _).mono ?_; rintro e w' ⟨rfl, rfl⟩)
        | (go_at_call 27; refine (swakes_any _).mono ?_; rintro e w1 ⟨rfl, hB1⟩))
      go_ret
      exact ⟨rfl, hB.trans (hB1.mono hB.size)⟩

theorem stampTells_walk (rho now : Int) (a : Option Addr) (len cap : Nat) (xs : List Dt) (w : World) (h : SliceFits Try.prog w 3 a len cap xs) :
    Calls Try.prog 7 #[.int .i64 rho, .int .i64 now, .slice a len cap] w fun e w' => e = .returned (.bool true) ∧ Below w.heap.size w w' := by
  by_cases hl : 200 < len
  · exact stampTells_out rho now a len cap h.le h.max w (.inl hl)
  · rcases st_cases rho now with hok | hb
    · obtain ⟨gb, go, T, hs⟩ := ints_cells w h
      exact stampTells_in rho now a len cap gb go T w hok (by omega) hs
    · exact stampTells_out rho now a len cap h.le h.max w (.inr ⟨by omega, hb⟩)
end Go.Proofs.Ytdmgmicnfoebmaa
