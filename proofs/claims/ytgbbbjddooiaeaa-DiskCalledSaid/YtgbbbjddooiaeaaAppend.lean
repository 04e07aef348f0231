/-
  Crash, Open, Append and Sync of package disk, by their contracts.
-/
import Derived.Test.YtgbbbjddooiaeaaSet
import Derived.Test.YtgbbbjddooiaeaaPut
namespace Go.Proofs.Ytgbbbjddooiaeaa
open Go.RowKit

def whenE (b : Bool) (e : Int) : Int := if b then e else 0

theorem when_any (b : Bool) (e : Int) (w : World) :
    Calls Try.prog 53 #[.bool b, .int .i64 e] w fun r w' => r = .returned (.int .i64 (whenE b e)) ∧ w = w' := by
  cases b
  · exact when_f e w
  · exact when_t e w

theorem lost_d {w : World} {D : Nat} {p : Place} {d : PD} {fv pv : Value} (h : DRep w D p d fv pv) :
    Calls Try.prog 46 #[.pointer (some ⟨D, 0, none⟩)] w fun r w' => r = .returned (.int .i64 d.word) ∧ Below w.heap.size w w' := by
  have hc := h.cells.2.1
  unfold PD.word
  cases hd : d.down with
  | false => rw [hd] at hc; exact lost_up D w hc
  | true => rw [hd] at hc; exact lost_down D w hc

theorem lacks_hit {w : World} {D : Nat} {p : Place} {d : PD} {fv pv : Value} (h : DRep w D p d fv pv) (F : Nat) :
    Calls Try.prog 50 #[.pointer (some ⟨D, 0, none⟩), .pointer (some ⟨F, 0, none⟩)] w fun r w' => r = .returned (.int .i64 d.word) ∧ Below w.heap.size w w' := by
  have := lacks_some (some D) (some d.down) F w (fun e => by cases e) (fun b hb => ⟨D, rfl, by obtain rfl := Option.some.inj hb; exact h.cells.2.1⟩)
  have e : lostE (some d.down) = d.word := by unfold PD.word; cases d.down <;> rfl
  rw [e] at this
  exact this
theorem lacks_miss {w : World} {D : Nat} {p : Place} {d : PD} {fv pv : Value} (h : DRep w D p d fv pv) :
    Calls Try.prog 50 #[.pointer (some ⟨D, 0, none⟩), .pointer none] w fun r w' => r = .returned (.int .i64 (fst0 [d.word, 4])) ∧ Below w.heap.size w w' := by
  have := lacks_none (some D) (some d.down) w (fun e => by cases e) (fun b hb => ⟨D, rfl, by obtain rfl := Option.some.inj hb; exact h.cells.2.1⟩)
  have e : lostE (some d.down) = d.word := by unfold PD.word; cases d.down <;> rfl
  rw [e] at this
  exact this

theorem word_up {d : PD} (h : d.down = false) : d.word = 0 := by simp [PD.word, h]
theorem word_down {d : PD} (h : d.down = true) : d.word = 5 := by simp [PD.word, h]

set_option maxHeartbeats 1000000 in
/-- Crash, with a plan whose cells lie outside the disk. -/
theorem crash_any {w : World} {D : Nat} {l : List Nat} {d : PD} (h : Disk w D l d) (ao : Option Addr) (b o cap : Nat) (plan : List (ByteArray × Int)) (hn : plan.length ≤ 6000000000000)
    (ha : 0 < plan.length → ao = some ⟨b, o, none⟩ ∧ b < w.heap.size ∧ b ∉ l) (hp : PlanAt w b o plan) (hwf : ∀ x ∈ plan, (Lit.int .i64 x.2).wf = true) :
    Calls Try.prog 22 #[.pointer (some ⟨D, 0, none⟩), .slice ao plan.length cap] w fun r w' => r = .returned (.int .i64 (d.crash plan).2) ∧ To D l w (d.crash plan).1 w' := by
  obtain ⟨p, fv, pv, h, rfl⟩ := h
  have hl := lost_d h
  have HD := Lib.hid h
  obtain ⟨N, hN⟩ : ∃ N, N = plan.length := ⟨_, rfl⟩
  cases hd : d.down with
  | true =>
    have e : d.crash plan = (d, 5) := by simp [PD.crash, hd]
    rw [e]
    rw [word_down hd] at hl
    rw [← hN]
    clear e hN ha hp hwf hd h
    go_enter Try.func22, Try.ntmps22
    go_wp2_with (go_at_call 46; refine hl.mono ?_; rintro e w1 ⟨rfl, hB⟩; clear hl)
    go_ret
    exact ⟨rfl, To.same ⟨p, fv, pv, HD.out, rfl⟩ hB⟩
  | false =>
    have e : d.crash plan = (d.fall plan, 0) := by simp [PD.crash, hd]
    rw [e]
    rw [word_up hd] at hl
    have hfl : ∀ w1, Below w.heap.size w w1 → Calls Try.prog 52 #[.pointer (some ⟨D, 0, none⟩), .slice ao plan.length cap] w1 fun r w' => r = .returned (.tuple #[]) ∧ To D (p.foot D) w1 (d.fall plan) w' := fun w1 hB =>
      (fall_any (h.below hB) ao b o cap plan hn (fun h0 => ⟨(ha h0).1, by have := (ha h0).2.1; have := hB.size; omega, fun hm => (ha h0).2.2 (by simp only [Place.foot, List.mem_cons, List.mem_append]; exact .inr (.inr (.inl hm)))⟩)
        (hp.congr fun h0 => hB.block b (ha h0).2.1) hwf).mono fun _ _ ⟨h1, h2, h3⟩ => ⟨h1, DRep.to_fall (h.below hB) h2 h3⟩
    rw [← hN] at hfl ⊢
    clear e hN ha hp hwf hd h
    go_enter Try.func22, Try.ntmps22
    go_wp2_with (go_at_call 46; refine hl.mono ?_; rintro e w1 ⟨rfl, hB⟩; clear hl; have hf1 := hfl w1 hB; clear hfl)
    go_wp2_with (go_at_call 52; refine hf1.mono ?_; rintro e w2 ⟨rfl, hT⟩; clear hf1)
    go_ret
    exact ⟨rfl, To.from_below hB hT⟩

set_option maxHeartbeats 1000000 in
theorem open_any {w : World} {D : Nat} {l : List Nat} {d : PD} (h : Disk w D l d) :
    Calls Try.prog 17 #[.pointer (some ⟨D, 0, none⟩)] w fun r w' => r = .returned (.int .i64 d.open.2) ∧ To D l w d.open.1 w' := by
  obtain ⟨p, fv, pv, h, rfl⟩ := h
  have hl := lost_d h
  have HD := Lib.hid h
  cases hd : d.down with
  | true =>
    have e : d.open = ({ d with down := false }, 0) := by simp [PD.open, hd]
    rw [e]
    rw [word_down hd] at hl
    clear e hd h
    go_enter Try.func17, Try.ntmps17
    go_wp2_with (go_at_call 46; refine hl.mono ?_; rintro e w1 ⟨rfl, hB⟩; clear hl; have hf1 := (HD.out.below hB).free 1; have hc1 := (HD.out.below hB).cells.2.1)
    go_ret
    refine ⟨rfl, To.from_below hB ?_⟩
    have h := HD.out.below hB
    have hne : ∀ k, k ≠ D → (w1.setCell ⟨D, 1, none⟩ (.bool false)).heap[k]? = w1.heap[k]? := fun k hk => heap_setCell_ne _ _ _ _ hk
    obtain ⟨n1, n2, n3⟩ := h.row_ne
    refine ⟨_, ⟨p, fv, pv, ⟨?_, h.row.congr fun g hg => hne g (fun e => n1 (by rw [hg, e])), h.files.imp fun a b ha hr => hr.congr fun k hk => hne k (n2 k (List.mem_flatMap.2 ⟨a, ha, hk⟩)).1, h.plan.congr fun g hg => hne g (n3 g (by simp [hg])).1, h.apart, h.few, h.names, h.passes, h.keeps, h.short⟩, rfl⟩, (Fr.refl _ _).setCell _ (.inl (by simp [Place.foot])) _, fun _ hk => .inl hk⟩
    have := heap_setCell_same h.head 1 (.bool false)
    simpa using this
  | false =>
    have e : d.open = (d, 2) := by simp [PD.open, hd]
    rw [e]
    rw [word_up hd] at hl
    clear e hd h
    go_enter Try.func17, Try.ntmps17
    go_wp2_with (first
      | (go_at_call 46; refine hl.mono ?_; rintro e w1 ⟨rfl, hB⟩; clear hl)
      | (go_at_call 47; (with_reducible refine (first_two _ _ 2 _ (by decide)).mono ?_); rintro e w' ⟨rfl, rfl⟩))
    go_ret
    exact ⟨rfl, To.same ⟨p, fv, pv, HD.out, rfl⟩ (hB.alloc hB.size _)⟩

end Go.Proofs.Ytgbbbjddooiaeaa
