/-
  What of package disk only reads: row, lost, find, lacks, size, by their contracts.
-/
import Derived.Test.YtgbbbjddooiaeaaRep
namespace Go.Proofs.Ytgbbbjddooiaeaa
open Go.RowKit

theorem row_some (D : Nat) (fv : Value) (w : World) (hc : w.cell? ⟨D, 0, none⟩ = some fv) :
    Calls Try.prog 55 #[.pointer (some ⟨D, 0, none⟩)] w fun r w' => r = .returned fv ∧ w = w' := by
  go_enter Try.func55, Try.ntmps55
  go_wp2
  go_ret
  exact ⟨rfl, rfl⟩
theorem row_nil (w : World) :
    Calls Try.prog 55 #[.pointer none] w fun r w' => r = .returned (.slice none 0 0) ∧ w = w' := by
  go_enter Try.func55, Try.ntmps55
  go_wp2
  go_ret
  exact ⟨rfl, rfl⟩

theorem lost_nil (w : World) : Calls Try.prog 46 #[.pointer none] w fun r w' => r = .returned (.int .i64 1) ∧ Below w.heap.size w w' := by
  go_enter Try.func46, Try.ntmps46
  go_wp2_with (first
    | (go_at_call 53; (with_reducible refine (when_t _ _).mono ?_); rintro e w' ⟨rfl, rfl⟩)
    | (go_at_call 53; (with_reducible refine (when_f _ _).mono ?_); rintro e w' ⟨rfl, rfl⟩)
    | (go_at_call 47; (with_reducible refine (first_two _ _ 1 _ (by decide)).mono ?_); rintro e w' ⟨rfl, rfl⟩))
  go_ret
  exact ⟨rfl, (Below.refl _ _).alloc (Nat.le_refl _) _⟩

/-- Of a disk that is there: OK, or 5 where it is down. -/
theorem lost_up (D : Nat) (w : World) (hc : w.cell? ⟨D, 1, none⟩ = some (.bool false)) : Calls Try.prog 46 #[.pointer (some ⟨D, 0, none⟩)] w fun r w' => r = .returned (.int .i64 0) ∧ Below w.heap.size w w' := by
  go_enter Try.func46, Try.ntmps46
  go_wp2_with (first
    | (go_at_call 53; (with_reducible refine (when_t _ _).mono ?_); rintro e w' ⟨rfl, rfl⟩)
    | (go_at_call 53; (with_reducible refine (when_f _ _).mono ?_); rintro e w' ⟨rfl, rfl⟩)
    | (go_at_call 47; (with_reducible refine (first_two _ _ 0 _ (by decide)).mono ?_); rintro e w' ⟨rfl, rfl⟩))
  go_ret
  exact ⟨rfl, (Below.refl _ _).alloc (Nat.le_refl _) _⟩
theorem lost_down (D : Nat) (w : World) (hc : w.cell? ⟨D, 1, none⟩ = some (.bool true)) : Calls Try.prog 46 #[.pointer (some ⟨D, 0, none⟩)] w fun r w' => r = .returned (.int .i64 5) ∧ Below w.heap.size w w' := by
  go_enter Try.func46, Try.ntmps46
  go_wp2_with (first
    | (go_at_call 53; (with_reducible refine (when_t _ _).mono ?_); rintro e w' ⟨rfl, rfl⟩)
    | (go_at_call 53; (with_reducible refine (when_f _ _).mono ?_); rintro e w' ⟨rfl, rfl⟩)
    | (go_at_call 47; (with_reducible refine (first_two _ _ 5 _ (by decide)).mono ?_); rintro e w' ⟨rfl, rfl⟩))
  go_ret
  exact ⟨rfl, (Below.refl _ _).alloc (Nat.le_refl _) _⟩

/-- The word of lost. -/
def lostE : Option Bool → Int
  | none => 1
  | some false => 0
  | some true => 5

/-- lost, of whatever disk: none, or one that is up or down. -/
theorem lost_any (D : Option Nat) (o : Option Bool) (w : World) (h0 : o = none → D = none) (h1 : ∀ b, o = some b → ∃ n, D = some n ∧ w.cell? ⟨n, 1, none⟩ = some (.bool b)) :
    Calls Try.prog 46 #[.pointer (D.map fun n => ⟨n, 0, none⟩)] w fun r w' => r = .returned (.int .i64 (lostE o)) ∧ Below w.heap.size w w' := by
  match o with
  | none => obtain rfl := h0 rfl; exact lost_nil w
  | some false => obtain ⟨n, rfl, hc⟩ := h1 _ rfl; exact lost_up n w hc
  | some true => obtain ⟨n, rfl, hc⟩ := h1 _ rfl; exact lost_down n w hc

/-- lacks: the word of lost, else 4 where there is no file. -/
theorem lacks_some (D : Option Nat) (o : Option Bool) (F : Nat) (w : World) (h0 : o = none → D = none) (h1 : ∀ b, o = some b → ∃ n, D = some n ∧ w.cell? ⟨n, 1, none⟩ = some (.bool b)) :
    Calls Try.prog 50 #[.pointer (D.map fun n => ⟨n, 0, none⟩), .pointer (some ⟨F, 0, none⟩)] w fun r w' => r = .returned (.int .i64 (lostE o)) ∧ Below w.heap.size w w' := by
  have hc := lost_any D o w h0 h1
  obtain ⟨dv, hdv⟩ : ∃ dv, dv = D.map fun n => (⟨n, 0, none⟩ : Addr) := ⟨_, rfl⟩
  rw [← hdv] at hc ⊢
  clear h0 h1 hdv
  go_enter Try.func50, Try.ntmps50
  go_wp2_with (go_at_call 46; refine hc.mono ?_; rintro e w1 ⟨rfl, hb⟩; clear hc)
  go_wp2_with (first
    | (go_at_call 53; (with_reducible refine (when_t _ _).mono ?_); rintro e w' ⟨rfl, rfl⟩)
    | (go_at_call 53; (with_reducible refine (when_f _ _).mono ?_); rintro e w' ⟨rfl, rfl⟩)
    | (go_at_call 47; (with_reducible refine (first_two _ _ (lostE o) _ ?_).mono ?_)))
  case refine_1 => rcases o with _ | _ | _ <;> decide
  rintro e w' ⟨rfl, rfl⟩
  go_wp2
  go_ret
  exact ⟨rfl, hb.alloc hb.size _⟩

end Go.Proofs.Ytgbbbjddooiaeaa
