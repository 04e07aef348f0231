/-
  A pick: the program.
-/
import Derived.Test.YtnainlemnkfpkaaFa6
namespace Go.Proofs.Ytnainlemnkfpkaa
open Go.RowKit
set_option linter.unusedSimpArgs false
set_option linter.unusedVariables false

theorem FrAt.vt {W W' : World} {M g fo ft n c1 c2 : Nat} {wt : Nat → Int} {al : Int} {s : FS} (h : FrAt W M g fo ft n c1 c2 wt al s) {V' : Int} {T' : Nat → TagsE} {ft' c' : Nat} (hr : Row W (.slice (some ⟨ft', 0, none⟩) n c') (some ft') 80 2 n (tagsL T' n)) (hM : M ≤ ft') (hW : W' = (W.setCell ⟨g, 2, none⟩ (.int .i64 V')).setCell ⟨g, 3, none⟩ (.slice (some ⟨ft', 0, none⟩) n c')) :
    FrAt W' M g fo ft' n c1 c' wt al ⟨V', T', s.z, s.sv⟩ ∧ Fr [g] W W' := by
  have hf2 : Fr [g] W W' := by rw [hW]; exact ((Fr.refl _ _).setCell _ (.inl (by simp)) _).setCell _ (.inl (by simp)) _
  have hk2 : Blk W' g #[.slice (some ⟨fo, 0, none⟩) n c1, .int .i64 al, .int .i64 V', .slice (some ⟨ft', 0, none⟩) n c'] 60 := by rw [hW]; exact (h.blk.set 2 _).set 3 _
  have hne := h.ne
  have hgt : g ≠ ft' := by
    rintro rfl
    obtain ⟨ct, hc⟩ := blk_row hr
    have := hc.symm.trans h.blk
    injection this with e'
    injection e' with e1 e2
    revert e2
    decide
  exact ⟨⟨hk2, h.fl.fr hf2 (by simpa using fun e => hne.1 e.symm), h.cp, hr.congr fun q e => by
    obtain rfl := Option.some.inj e
    exact hf2.block _ hr.lt (by simpa using fun e => hgt e.symm), ⟨h.ge.1, h.ge.2.1, hM⟩⟩, hf2⟩
theorem FrAt.sv1 {W W' : World} {M g fo ft n c1 c2 : Nat} {wt : Nat → Int} {al : Int} {s : FS} (h : FrAt W M g fo ft n c1 c2 wt al s) {k : Nat} (hk : k < n) (hW : W' = W.setCell ⟨fo, k * 3 + 2, none⟩ (.bool true)) :
    FrAt W' M g fo ft n c1 c2 wt al ⟨s.V, s.T, s.z, upf s.sv k true⟩ ∧ Fr [fo] W W' := by
  obtain ⟨p, q⟩ := h.fl.put1 hk true hW
  have hne := h.ne
  exact ⟨⟨(q.block g h.blk.lt (by simpa using hne.1)).trans h.blk, p, h.cp, h.tg.congr fun x e => by obtain rfl := Option.some.inj e; exact q.block _ h.tg.lt (by simpa using fun e => hne.2.2 e.symm), h.ge⟩, q⟩
/-- what virtual answers a scheduler -/
def VTk (w : World) (n : Nat) (V : Int) (T : Nat → TagsE) (mk : Value → Value) (e : Ending) (w' : World) : Prop := ∃ ft' c', e = .returned (mk (.agg #[.int .i64 V, .slice (some ⟨ft', 0, none⟩) n c'])) ∧ Row w' (.slice (some ⟨ft', 0, none⟩) n c') (some ft') 80 2 n (tagsL T n) ∧ w.heap.size ≤ ft' ∧ Below w.heap.size w w'
theorem vpick_ok (V : Int) (ft n c2 : Nat) (T : Nat → TagsE) (ra : Option Addr) (rc rb ro : Nat) (R : Nat → Bool) (k0 k : Nat) (w : World) (hs : TagsIn w (some ⟨ft, 0, none⟩) n c2 ft 0 T) (hn : n ≤ 8) (h0 : 0 < n) (hr : BoolsIn w ra n rc rb ro R) (hv : vokB V n T = true) (h1 : firstS R (ltS T) n = some k0) (h2 : firstS (tkN T R (max V (T k0).s)) (ltF T) n = some k) :
    Calls Try.prog 28 #[.agg #[.int .i64 V, .slice (some ⟨ft, 0, none⟩) n c2], .slice ra n rc] w (VTk w n (max V (T k0).s) T fun v => .tuple #[v, .int .i64 k, .bool true]) := by
  refine (pick_any V _ n c2 ft 0 T ra n rc rb ro R w hs (by omega) hr).mono fun e w' h => ?_
  unfold PickP at h
  rw [if_pos ⟨hv, rfl⟩, h1] at h
  simp only at h
  rw [firstI_some h2] at h
  obtain ⟨v, rfl, hv⟩ := h
  obtain ⟨ft', c', rfl, h1, h2, h3⟩ := vout_own hv h0
  exact ⟨ft', c', rfl, h1, h2, h3⟩
theorem vpick_no (V : Int) (ft n c2 : Nat) (T : Nat → TagsE) (ra : Option Addr) (rc rb ro : Nat) (R : Nat → Bool) (w : World) (hs : TagsIn w (some ⟨ft, 0, none⟩) n c2 ft 0 T) (hn : n ≤ 8) (hr : BoolsIn w ra n rc rb ro R) (hv : vokB V n T = true) (h1 : firstS R (ltS T) n = none) :
    Calls Try.prog 28 #[.agg #[.int .i64 V, .slice (some ⟨ft, 0, none⟩) n c2], .slice ra n rc] w fun e w' => ∃ a c, e = .returned (.tuple #[.agg #[.int .i64 0, .slice a 0 c], .int .i64 0, .bool false]) ∧ Below w.heap.size w w' := by
  refine (pick_any V _ n c2 ft 0 T ra n rc rb ro R w hs (by omega) hr).mono fun e w' h => ?_
  unfold PickP at h
  rw [if_pos ⟨hv, rfl⟩, h1] at h
  obtain ⟨v, rfl, a, c, ob, rfl, _, _, hB⟩ := h
  exact ⟨a, c, rfl, hB⟩
theorem vserve_ok (V : Int) (ft n c2 : Nat) (T : Nat → TagsE) (z : Int) (w : World) (hs : TagsIn w (some ⟨ft, 0, none⟩) n c2 ft 0 T) (hn : n ≤ 8) (h0 : 0 < n) (hv : serveB V n T z = true) :
    Calls Try.prog 30 #[.agg #[.int .i64 V, .slice (some ⟨ft, 0, none⟩) n c2], .int .i64 z] w (VTk w n (V + z * 720720) T fun v => .tuple #[v, .int .i64 0]) := by
  refine (serve_any V _ n c2 ft 0 T z w hs (by omega)).mono fun e w' h => ?_
  unfold ServeP at h
  rw [hv] at h
  obtain ⟨v, rfl, hv⟩ := h
  obtain ⟨ft', c', rfl, h1, h2, h3⟩ := vout_own hv h0
  exact ⟨ft', c', rfl, h1, h2, h3⟩
def reV (V : Int) : Int := if 1125899906842624 < V then 1099511627776 else V
def reT (V : Int) (n : Nat) (T : Nat → TagsE) : Nat → TagsE := if 1125899906842624 < V then rebT T (V - 1099511627776) n else T
theorem vreb_ok (V : Int) (ft n c2 : Nat) (T : Nat → TagsE) (w : World) (hs : TagsIn w (some ⟨ft, 0, none⟩) n c2 ft 0 T) (hn : n ≤ 8) (h0 : 0 < n) (hv : vokB V n T = true) :
    Calls Try.prog 31 #[.agg #[.int .i64 V, .slice (some ⟨ft, 0, none⟩) n c2]] w (VTk w n (reV V) (reT V n T) fun v => v) := by
  refine (rebase_any V _ n c2 ft 0 T w hs (by omega)).mono fun e w' h => ?_
  unfold RebP at h
  obtain ⟨v, rfl, h⟩ := h
  unfold reV reT
  by_cases hl : 1125899906842624 < V
  · have : lateB V n T = true := by unfold lateB; rw [hv]; simpa using hl
    rw [this] at h
    obtain ⟨ft', c', rfl, h1, h2, h3⟩ := vout_own h h0
    rw [if_pos hl, if_pos hl]
    exact ⟨ft', c', rfl, h1, h2, h3⟩
  · have : lateB V n T = false := by unfold lateB; rw [hv]; simpa using hl
    rw [this] at h
    obtain ⟨ft', c', rfl, h1, h2, h3⟩ := vout_own h h0
    rw [if_neg hl, if_neg hl]
    exact ⟨ft', c', rfl, h1, h2, h3⟩
theorem takeS_re (n k : Nat) (now size : Int) (s : FS) : takeS n k now size s = ⟨reV (now + size * 720720), reT (now + size * 720720) n s.T, s.z, upf s.sv k true⟩ := rfl
/-- the time between is one that may be -/
theorem mid_ok {n : Nat} {s : FS} (h : Inv n s) {now z : Int} (hn : s.V ≤ now ∧ now ≤ s.V + 138378240000) (hz : 1 ≤ z ∧ z ≤ 1500) : vokB now n s.T = true ∧ serveB now n s.T z = true ∧ vokB (now + z * 720720) n s.T = true := by
  have hV := h.V
  have hv := h.vok
  have hv1 : ∀ x : Int, 0 ≤ x → x ≤ 1152921504606846976 → vokB x n s.T = true := fun x h1 h2 => by
    unfold vokB timeB at hv ⊢
    simp at hv ⊢
    exact ⟨⟨hv.1.1, h1, h2⟩, hv.2⟩
  have a := hv1 now (by omega) (by omega)
  refine ⟨a, ?_, hv1 _ (by omega) (by omega)⟩
  unfold serveB
  rw [a]
  simp
  omega
theorem now_bd {n : Nat} {s : FS} (h : Inv n s) {k0 : Nat} (hk : k0 < n) : s.V ≤ max s.V (s.T k0).s ∧ max s.V (s.T k0).s ≤ s.V + 138378240000 := by
  have := (h.k k0 hk).sV
  omega
end Go.Proofs.Ytnainlemnkfpkaa
