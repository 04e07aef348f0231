/-
  where at a plan's pieces; stays: how many late bytes a crash leaves.
-/
import Derived.Test.YtgbbbjddooiaeaaArms
namespace Go.Proofs.Ytgbbbjddooiaeaa
open Go.RowKit

/-- The cells of a plan: at (b, o) on. -/
def PlanAt (w : World) (b o : Nat) (plan : List (ByteArray × Int)) : Prop :=
  ∀ j, j < plan.length → w.cell? ⟨b, o + j * 2, none⟩ = some (.string (plan.getD j (ByteArray.empty, 0)).1) ∧ w.cell? ⟨b, o + j * 2 + 1, none⟩ = some (.int .i64 (plan.getD j (ByteArray.empty, 0)).2)

theorem stays1_any (s : ByteArray) (k : Int) (w : World) :
    Calls Try.prog 86 #[.agg #[.string s, .int .i64 k]] w fun r w' => r = .returned (.string s) ∧ Below w.heap.size w w' := by
  go_enter Try.func86, Try.ntmps86
  go_wp2
  go_ret
  exact ⟨rfl, (Below.refl _ _).alloc (Nat.le_refl _) _⟩

set_option maxHeartbeats 1000000 in
theorem whereP_hit (b o cap : Nat) (plan : List (ByteArray × Int)) (s : ByteArray) (k : Nat) (w : World) (hn : plan.length ≤ 6000000000000) (hb : b < w.heap.size) (hk : k < plan.length) (hp : PlanAt w b o plan)
    (hhit : (plan.getD k (ByteArray.empty, 0)).1 = s) (hno : ∀ j, j < k → (plan.getD j (ByteArray.empty, 0)).1 ≠ s) :
    Calls Try.prog 85 #[.slice (some ⟨b, o, none⟩) plan.length cap, .string s, .func (.func 86) #[] #[]] w fun r w' => r = .returned (.int .i64 k) ∧ Below w.heap.size w w' := by
  obtain ⟨n, hN⟩ : ∃ n, n = plan.length := ⟨_, rfl⟩
  rw [← hN] at hn hk ⊢
  have HN : Hid (n = plan.length) := hN
  clear hN
  go_enter Try.func85, Try.ntmps85
  go_wp2
  go_loopw [7, 8, 11] (fun _ _ i wr => ∃ j : Nat, j ≤ k ∧ i = .int .i64 j ∧ Below w.heap.size w wr) (fun _ _ i _ => n - (intOf i).toNat)
  case atStart => exact ⟨0, Nat.zero_le _, rfl, Below.refl _ _⟩
  case round =>
    obtain ⟨j, hj, rfl, hB⟩ := hrel
    have hlt : j < n := by omega
    obtain ⟨h1, h2⟩ := hp j (by have := HN.out; omega)
    have h1' : wr.cell? ⟨b, o + j * 2, none⟩ = some (.string (plan.getD j (ByteArray.empty, 0)).1) := (hB.cell (by exact hb)).trans h1
    have h2' : wr.cell? ⟨b, o + j * 2 + 1, none⟩ = some (.int .i64 (plan.getD j (ByteArray.empty, 0)).2) := (hB.cell (by exact hb)).trans h2
    have hbr : b < wr.heap.size := by have := hB.size; omega
    clear h1 h2
    by_cases hjk : j = k
    · subst hjk
      have ht := str_eq hhit
      obtain ⟨q, hq⟩ : ∃ q, q = plan.getD j (ByteArray.empty, 0) := ⟨_, rfl⟩
      rw [← hq] at h1' h2' ht
      clear hhit hno hp hq
      go_wp2_with (go_at_call 86; refine (stays1_any _ _ _).mono ?_; rintro e w1 ⟨rfl, hB1⟩)
      go_ret
      exact ⟨rfl, (hB.alloc hB.size _).trans (hB1.mono (by have := hB.size; simp; omega))⟩
    · have ht := str_ne (hno j (by omega))
      obtain ⟨q, hq⟩ : ∃ q, q = plan.getD j (ByteArray.empty, 0) := ⟨_, rfl⟩
      rw [← hq] at h1' h2' ht
      clear hhit hno hp hq
      go_wp2_with (go_at_call 86; refine (stays1_any _ _ _).mono ?_; rintro e w1 ⟨rfl, hB1⟩)
      go_roundw
      case rel => exact ⟨j + 1, by omega, by go_num, (hB.alloc hB.size _).trans (hB1.mono (by have := hB.size; simp; omega))⟩
      case measure => simp [intOf]; omega

set_option maxHeartbeats 1000000 in
theorem whereP_miss (ao : Option Addr) (b o cap : Nat) (plan : List (ByteArray × Int)) (s : ByteArray) (w : World) (hn : plan.length ≤ 6000000000000000) (ha : 0 < plan.length → ao = some ⟨b, o, none⟩ ∧ b < w.heap.size) (hp : PlanAt w b o plan)
    (hno : ∀ j, j < plan.length → (plan.getD j (ByteArray.empty, 0)).1 ≠ s) :
    Calls Try.prog 85 #[.slice ao plan.length cap, .string s, .func (.func 86) #[] #[]] w fun r w' => r = .returned (.int .i64 (-1)) ∧ Below w.heap.size w w' := by
  obtain ⟨n, hN⟩ : ∃ n, n = plan.length := ⟨_, rfl⟩
  rw [← hN] at hn ha hno ⊢
  have HN : Hid (n = plan.length) := hN
  clear hN
  go_enter Try.func85, Try.ntmps85
  go_wp2
  go_loopw [7, 8, 11] (fun _ _ i wr => ∃ j : Nat, j ≤ n ∧ i = .int .i64 j ∧ Below w.heap.size w wr) (fun _ _ i _ => n - (intOf i).toNat)
  case atStart => exact ⟨0, Nat.zero_le _, rfl, Below.refl _ _⟩
  case round =>
    obtain ⟨j, hj, rfl, hB⟩ := hrel
    by_cases hlt : j < n
    · obtain ⟨rfl, hb⟩ := ha (by omega)
      obtain ⟨h1, h2⟩ := hp j (by have := HN.out; omega)
      have h1' : wr.cell? ⟨b, o + j * 2, none⟩ = some (.string (plan.getD j (ByteArray.empty, 0)).1) := (hB.cell (by exact hb)).trans h1
      have h2' : wr.cell? ⟨b, o + j * 2 + 1, none⟩ = some (.int .i64 (plan.getD j (ByteArray.empty, 0)).2) := (hB.cell (by exact hb)).trans h2
      have hbr : b < wr.heap.size := by have := hB.size; omega
      clear h1 h2
      have ht := str_ne (hno j hlt)
      obtain ⟨q, hq⟩ : ∃ q, q = plan.getD j (ByteArray.empty, 0) := ⟨_, rfl⟩
      rw [← hq] at h1' h2' ht
      clear hno hp hq ha
      go_wp2_with (go_at_call 86; refine (stays1_any _ _ _).mono ?_; rintro e w1 ⟨rfl, hB1⟩)
      go_roundw
      case rel => exact ⟨j + 1, by omega, by go_num, (hB.alloc hB.size _).trans (hB1.mono (by have := hB.size; simp; omega))⟩
      case measure => simp [intOf]; omega
    · clear hno hp ha
      go_wp2
      go_ret
      exact ⟨rfl, hB⟩

/-- How many late bytes of a file a plan leaves. -/
def planKeep (plan : List (ByteArray × Int)) (s : ByteArray) : Option Int := (plan.find? (fun p => decide (p.1 = s))).map (·.2)
def stays (plan : List (ByteArray × Int)) (f : PF) : Nat :=
  match planKeep plan f.name with
  | none => 0
  | some k => min k.toNat (f.text.length - f.sure)

theorem planKeep_hit {plan : List (ByteArray × Int)} {s : ByteArray} {k : Int} (h : planKeep plan s = some k) : ∃ j, j < plan.length ∧ plan.getD j (ByteArray.empty, 0) = (s, k) ∧ ∀ i, i < j → (plan.getD i (ByteArray.empty, 0)).1 ≠ s := by
  unfold planKeep at h
  obtain ⟨p, hp, rfl⟩ := Option.map_eq_some_iff.1 h
  obtain ⟨h1, j, hj, h2, h3⟩ := List.find?_eq_some_iff_getElem.1 hp
  refine ⟨j, hj, ?_, fun i hi => ?_⟩
  · simp only [List.getD, List.getElem?_eq_getElem hj, Option.getD_some, h2]
    simp at h1
    rw [← h1]
  · have := h3 i hi
    simpa [List.getD, List.getElem?_eq_getElem (show i < plan.length by omega)] using this
theorem planKeep_miss {plan : List (ByteArray × Int)} {s : ByteArray} (h : planKeep plan s = none) : ∀ i, i < plan.length → (plan.getD i (ByteArray.empty, 0)).1 ≠ s := by
  unfold planKeep at h
  rw [Option.map_eq_none_iff, List.find?_eq_none] at h
  intro i hi
  have := h (plan[i]) (List.getElem_mem hi)
  simpa [List.getD, List.getElem?_eq_getElem hi] using this

set_option maxHeartbeats 1000000 in
theorem stays_none (ao : Option Addr) (b o cap : Nat) (plan : List (ByteArray × Int)) (w : World) (hn : plan.length ≤ 6000000000000) (ha : 0 < plan.length → ao = some ⟨b, o, none⟩ ∧ b < w.heap.size) (hp : PlanAt w b o plan)
    {F : Nat} {g : Option Nat} {f : PF} (hf : FRep w (F, g) f) (hk : planKeep plan f.name = none) :
    Calls Try.prog 71 #[.slice ao plan.length cap, .pointer (some ⟨F, 0, none⟩)] w fun r w' => r = .returned (.int .i64 (stays plan f : Nat)) ∧ Below w.heap.size w w' := by
  have e : stays plan f = 0 := by simp [stays, hk]
  rw [e]
  have hw := whereP_miss ao b o cap plan f.name w (by omega) ha hp (planKeep_miss hk)
  have hc0 : w.cell? ⟨F, 0, none⟩ = some (.string f.name) := by obtain ⟨v, n, xs, hb, _⟩ := hf; exact cell_at hb 0
  clear ha hp hk e
  go_enter Try.func71, Try.ntmps71
  go_wp2_with (go_at_call 85; refine hw.mono ?_; rintro e w1 ⟨rfl, hB1⟩; clear hw)
  go_ret
  exact ⟨rfl, hB1⟩

set_option maxHeartbeats 1000000 in
theorem stays_some (b o cap : Nat) (plan : List (ByteArray × Int)) (w : World) (hn : plan.length ≤ 6000000000000) (hb : b < w.heap.size) (hp : PlanAt w b o plan)
    {F : Nat} {g : Option Nat} {f : PF} (hf : FRep w (F, g) f) (k : Int) (hk : planKeep plan f.name = some k) (hwf : (Lit.int .i64 k).wf = true) :
    Calls Try.prog 71 #[.slice (some ⟨b, o, none⟩) plan.length cap, .pointer (some ⟨F, 0, none⟩)] w fun r w' => r = .returned (.int .i64 (stays plan f : Nat)) ∧ Below w.heap.size w w' := by
  obtain ⟨j, hj, hq, hno⟩ := planKeep_hit hk
  have e : stays plan f = min k.toNat (f.text.length - f.sure) := by simp [stays, hk]
  rw [e]
  have hw := whereP_hit b o cap plan f.name j w hn hb hj hp (by rw [hq]) hno
  have hc0 : w.cell? ⟨F, 0, none⟩ = some (.string f.name) := by obtain ⟨v, n, xs, hb, _⟩ := hf; exact cell_at hb 0
  obtain ⟨h1, h2⟩ := hp j hj
  rw [hq] at h2
  obtain ⟨N, hN⟩ : ∃ N, N = plan.length := ⟨_, rfl⟩
  rw [← hN] at hn hj hw ⊢
  clear hp hk e h1 hq hno hN
  obtain ⟨hs1, hs2, hs3⟩ : f.ok := by obtain ⟨v, n, xs, hb, _, _, hok⟩ := hf; exact hok
  obtain ⟨L, hL⟩ : ∃ L, L = f.text.length := ⟨_, rfl⟩
  rw [← hL] at hs2 hs3 ⊢
  have HL : Hid (L = f.text.length) := hL
  have hfl := hf.lt F (by simp [foot1])
  clear hL
  have hbd : -9223372036854775808 ≤ k ∧ k ≤ 9223372036854775807 := by
    have h1 : IntKind.i64.min = -9223372036854775808 := rfl
    have h2 : IntKind.i64.max = 9223372036854775807 := rfl
    simp only [Lit.wf, Bool.and_eq_true, decide_eq_true_eq] at hwf
    omega
  go_enter Try.func71, Try.ntmps71
  go_wp2_with (go_at_call 85; refine hw.mono ?_; rintro e w1 ⟨rfl, hB1⟩; clear hw hwf)
  have hsz := fun nq => size_some (w := w1.drewN nq) (p := (F, g)) (f := f) ((hf.congr fun k hk => hB1.block k (hf.lt k hk)).congr fun _ _ => rfl)
  rw [← HL.out] at hsz
  have h2' : w1.cell? ⟨b, o + j * 2 + 1, none⟩ = some (.int .i64 k) := (hB1.cell (by exact hb)).trans h2
  have hsu : w1.cell? ⟨F, 2, none⟩ = some (.int .i64 (f.sure : Nat)) := by obtain ⟨v, n, xs, hb, _⟩ := hf; rw [hB1.cell (by exact hfl)]; exact cell_at hb 2
  clear h2 hc0
  have hend : ∀ nq, Below w.heap.size w (w1.drewN nq) := fun nq => ⟨hB1.os, hB1.tape, hB1.output, hB1.size, hB1.block⟩
  rcases (show k < 0 ∨ (0 ≤ k ∧ k ≤ (L : Int) - (f.sure : Int)) ∨ (0 ≤ k ∧ (L : Int) - (f.sure : Int) < k) by omega) with hc | ⟨hc, hd⟩ | ⟨hc, hd⟩
  all_goals
    go_wp2_with fail
    go_quiet ((go_at_call 56; exact keepsQ (hsz _)))
    go_wp2
  all_goals (go_ret; exact ⟨ret_int (by omega), hend _⟩)

end Go.Proofs.Ytgbbbjddooiaeaa
