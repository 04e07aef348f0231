/-
  burn: what an armed disk waits for; Crash and Open, by their contracts.
-/
import Derived.Test.YtgbbbjddooiaeaaFall
namespace Go.Proofs.Ytgbbbjddooiaeaa
open Go.RowKit

theorem planCells_at (l : List (ByteArray × Int)) (j : Nat) (hj : j < l.length) : (planCells l)[j * 2]? = some (.string (l.getD j (ByteArray.empty, 0)).1) ∧ (planCells l)[j * 2 + 1]? = some (.int .i64 (l.getD j (ByteArray.empty, 0)).2) := by
  induction l generalizing j with
  | nil => simp at hj
  | cons x l ih =>
    cases j with
    | zero => simp [planCells]
    | succ j =>
      have := ih j (by simpa using hj)
      have e1 : (j + 1) * 2 = j * 2 + 2 := by omega
      have e2 : (j + 1) * 2 + 1 = (j * 2 + 1) + 2 := by omega
      rw [e2, e1]
      simpa [planCells, List.getD] using this

theorem Row.planAt {w : World} {v : Value} {ob : Option Nat} {l : List (ByteArray × Int)} (h : Row w v ob 62 2 l.length (planCells l)) : PlanAt w (ob.getD 0) 0 l := fun j hj => by
  obtain ⟨g, rfl, h1, _⟩ := h.cell (j * 2) (by omega)
  obtain ⟨g', e, h2, _⟩ := h.cell (j * 2 + 1) (by omega)
  obtain rfl := Option.some.inj e
  obtain ⟨h3, h4⟩ := planCells_at l j hj
  simp only [Option.getD_some, Nat.zero_add]
  exact ⟨h1.trans h3, h2.trans h4⟩

def PD.burn (d : PD) : PD × Int :=
  if d.lit = false then (d, 0) else if 0 < d.pass then ({ d with pass := d.pass - 1 }, 0) else (d.fall d.plan, 5)

/-- fall, as it is told of a disk. -/
theorem DRep.to_fall {w w' : World} {D : Nat} {p : Place} {d : PD} {fv pv : Value} {plan : List (ByteArray × Int)} (_ : DRep w D p d fv pv) (h : DRep w' D { p with plan := none } (d.fall plan) fv (.slice none 0 0)) (hFr : Fr (p.foot D) w w') :
    To D (p.foot D) w (d.fall plan) w' :=
  ⟨_, ⟨_, _, _, h, rfl⟩, hFr, fun k hk => .inl (by
    simp only [Place.foot, List.mem_cons, List.mem_append, Option.toList_none, List.not_mem_nil, or_false] at hk ⊢
    rcases hk with h | h | h
    · exact .inl h
    · exact .inr (.inl h)
    · exact .inr (.inr (.inl h)))⟩

set_option maxHeartbeats 1000000 in
theorem burn_any {w : World} {D : Nat} {l : List Nat} {d : PD} (h : Disk w D l d) :
    Calls Try.prog 58 #[.pointer (some ⟨D, 0, none⟩)] w fun r w' => r = .returned (.int .i64 d.burn.2) ∧ To D l w d.burn.1 w' := by
  obtain ⟨p, fv, pv, h, rfl⟩ := h
  obtain ⟨hc0, hc1, hc2, hc3, hc4⟩ := h.cells
  have hf3 := h.free 3
  have hps := h.passes
  cases hlit : d.lit with
  | false =>
    have e : d.burn = (d, 0) := by simp [PD.burn, hlit]
    rw [e]
    rw [hlit] at hc2
    have HT := Lib.hid (To.same (D := D) (l := p.foot D) ⟨p, fv, pv, h, rfl⟩ (Below.refl w.heap.size w))
    clear e hlit h
    go_enter Try.func58, Try.ntmps58
    go_wp2
    go_ret
    exact ⟨rfl, HT.out⟩
  | true =>
    rw [hlit] at hc2
    by_cases hp : 0 < d.pass
    · have e : d.burn = ({ d with pass := d.pass - 1 }, 0) := by simp [PD.burn, hlit, hp]
      rw [e]
      obtain ⟨q, hq⟩ : ∃ q, d.pass = q + 1 := ⟨d.pass - 1, by omega⟩
      rw [hq] at hc3
      have HT : Hid (To D (p.foot D) w { d with pass := d.pass - 1 } (w.setCell ⟨D, 3, none⟩ (.int .i64 (q : Nat)))) := by
        have hne : ∀ k, k ≠ D → (w.setCell ⟨D, 3, none⟩ (.int .i64 (q : Nat))).heap[k]? = w.heap[k]? := fun k hk => heap_setCell_ne _ _ _ _ hk
        obtain ⟨n1, n2, n3⟩ := h.row_ne
        refine ⟨_, ⟨p, fv, pv, ⟨?_, h.row.congr fun g hg => hne g (fun e => n1 (by rw [hg, e])), h.files.imp fun a b ha hr => hr.congr fun k hk => hne k (n2 k (List.mem_flatMap.2 ⟨a, ha, hk⟩)).1, h.plan.congr fun g hg => hne g (n3 g (by simp [hg])).1, h.apart, h.few, h.names, by simp only; omega, h.keeps, h.short⟩, rfl⟩, (Fr.refl _ _).setCell _ (.inl (by simp [Place.foot])) _, fun _ hk => .inl hk⟩
        have := heap_setCell_same h.head 3 (.int .i64 (q : Nat))
        simpa [hq] using this
      have hq9 : q < 9223372036854775807 := by omega
      clear e hlit h hq hp hps
      go_enter Try.func58, Try.ntmps58
      go_wp2
      go_ret
      exact ⟨rfl, HT.out⟩
    · have e : d.burn = (d.fall d.plan, 5) := by simp [PD.burn, hlit, hp]
      rw [e]
      have hq : d.pass = 0 := by omega
      rw [hq] at hc3
      obtain ⟨a, cap, rfl, hcap, hmax, ha⟩ := h.plan.shape
      have hfl := fall_any h a (p.plan.getD 0) 0 cap d.plan (by have := h.short; omega)
        (fun h0 => by
          obtain ⟨g, hg, _⟩ := h.plan.cell 0 (by omega)
          refine ⟨by rw [ha, hg]; rfl, ?_, ?_⟩
          · exact h.lts.2.2.2 _ (by simp [hg])
          · exact (h.row_ne.2.2 _ (by simp [hg])).2.2)
        h.plan.planAt (fun x hx => (h.keeps x hx).1)
      obtain ⟨N, hN⟩ : ∃ N, N = d.plan.length := ⟨_, rfl⟩
      rw [← hN] at hc4 hfl
      have HD := Lib.hid h
      clear e hlit hq hp hps ha hN h
      go_enter Try.func58, Try.ntmps58
      go_wp2_with (go_at_call 52; refine hfl.mono ?_; rintro e w1 ⟨rfl, hR, hFr⟩)
      go_ret
      exact ⟨rfl, DRep.to_fall HD.out hR hFr⟩

def PD.crash (d : PD) (plan : List (ByteArray × Int)) : PD × Int := if d.down then (d, 5) else (d.fall plan, 0)
def PD.open (d : PD) : PD × Int := if d.down then ({ d with down := false }, 0) else (d, 2)

end Go.Proofs.Ytgbbbjddooiaeaa
