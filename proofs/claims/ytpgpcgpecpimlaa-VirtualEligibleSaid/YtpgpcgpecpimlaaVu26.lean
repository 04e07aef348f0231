/-
  VirtualEligible, joined.
-/
import Derived.Test.YtpgpcgpecpimlaaVu20
import Derived.Test.YtpgpcgpecpimlaaVu18
import Derived.Test.YtpgpcgpecpimlaaVu21
namespace Go.Proofs.Ytpgpcgpecpimlaa
open Go.RowKit
set_option linter.unusedSimpArgs false
set_option linter.unusedVariables false

theorem elig_row {R : Nat → Bool} {T : Nat → TagsE} {n : Nat} (h : firstS R (ltS T) n = none) (i : Nat) (hi : i < n) : R i = false := firstS_none h i hi

theorem virtualEligible_any (V : Int) (a : Option Addr) (n c b o : Nat) (T : Nat → TagsE) (ra : Option Addr) (rn rc rb ro : Nat) (R : Nat → Bool) (s wt al : Int) (w : World) (hs : TagsIn w a n c b o T) (hr : BoolsIn w ra rn rc rb ro R) :
    Calls Try.prog 6 #[.agg #[.int .i64 V, .slice a n c], .slice ra rn rc, .int .i64 s, .int .i64 wt, .int .i64 al] w fun e w' => e = .returned (.bool true) ∧ Below w.heap.size w w' := by
  by_cases hg : 50 < n
  · exact elig_head V a n c b o T ra rn rc s wt al w hs (.inl (by simpa using hg))
  have G0 : decide (50 < n) = false := by simpa using hg
  have hn : n * 16 ≤ 140737488351232 := by omega
  cases hv : vokB V n T with
  | false => exact elig_head V a n c b o T ra rn rc s wt al w hs (.inr ⟨G0, hv⟩)
  | true =>
    have hp := fun (W : World) (h1 : TagsIn W a n c b o T) (h2 : BoolsIn W ra rn rc rb ro R) => pick_any V a n c b o T ra rn rc rb ro R W h1 hn h2
    by_cases hrn : rn = n
    · cases hk : firstS R (ltS T) n with
      | none =>
        refine elig_no V a n c b o T ra rn rc rb ro R s wt al w hs hr G0 hv (fun i hi h => ?_) (fun W h1 h2 => (hp W h1 h2).mono fun e w' h => ?_)
        · rw [elig_row hk i (hrn ▸ hi)] at h; cases h
        · unfold PickP at h; rw [if_pos ⟨hv, hrn⟩, hk] at h; exact h
      | some k =>
        obtain ⟨m, hm⟩ := second_some (V := V) hk
        have hp2 : ∀ W, TagsIn W a n c b o T → BoolsIn W ra rn rc rb ro R → Calls Try.prog 29 #[.agg #[.int .i64 V, .slice a n c], .slice ra rn rc] W (PickOut W (max V (T k).s) n T m true) := fun W h1 h2 => (hp W h1 h2).mono fun e w' h => by
          unfold PickP at h; rw [if_pos ⟨hv, hrn⟩, hk] at h; simp only at h; rw [firstI_some hm] at h; exact h
        rcases cost_cases s wt al with hc | hc
        · exact elig_yes0 V a n c b o T ra rn rc rb ro R s wt al w hs hr G0 hv k m _ hrn hk rfl hm hc hp2
        · exact elig_yes1 V a n c b o T ra rn rc rb ro R s wt al w hs hr G0 hv k m _ hrn hk rfl hm hc hp2
    · refine elig_no V a n c b o T ra rn rc rb ro R s wt al w hs hr G0 hv (fun _ _ _ => hrn) (fun W h1 h2 => (hp W h1 h2).mono fun e w' h => ?_)
      unfold PickP at h; rw [if_neg (fun h => hrn h.2)] at h; exact h

theorem virtualEligible_dt (x : Dt) (ra : Option Addr) (rn rc : Nat) (rs : List Dt) (s wt al : Int) (w : World) (h : Fits Try.prog w 24 x) (h2 : SliceFits Try.prog w 4 ra rn rc rs) :
    Calls Try.prog 6 #[.agg x.cells.toArray, .slice ra rn rc, .int .i64 s, .int .i64 wt, .int .i64 al] w fun e w' => e = .returned (.bool true) ∧ Below w.heap.size w w' := by
  obtain ⟨V, a, n, c, xs, e, _, hS⟩ := virt_inv h
  obtain ⟨b, o, T, hT⟩ := tags_cells w hS
  obtain ⟨rb, ro, R, hR⟩ := bools_cells w h2
  rw [e]
  exact virtualEligible_any V a n c b o T ra rn rc rb ro R s wt al w hT hR
end Go.Proofs.Ytpgpcgpecpimlaa
