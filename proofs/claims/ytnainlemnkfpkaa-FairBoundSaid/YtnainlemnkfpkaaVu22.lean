/-
  Package virtual: times brought down.
-/
import Derived.Test.YtnainlemnkfpkaaVu9
import Derived.Test.YtnainlemnkfpkaaVu13
import Derived.StillTailTactics
namespace Go.Proofs.Ytnainlemnkfpkaa
open Go.RowKit
set_option linter.unusedSimpArgs false
set_option linter.unusedVariables false

def rebE (off : Int) (t : TagsE) : TagsE := ⟨max t.s off - off, max t.f off - off⟩
def rebT (T : Nat → TagsE) (off : Int) (k : Nat) (j : Nat) : TagsE := if j < k then rebE off (T j) else T j
theorem rebT_step {T : Nat → TagsE} {off : Int} {k : Nat} {s f : Int} (h : rebE off (T k) = ⟨s, f⟩) (n : Nat) : tagsL (updT (rebT T off k) k ⟨s, f⟩) n = tagsL (rebT T off (k + 1)) n := by
  refine tagsL_congr fun j _ => ?_
  unfold updT rebT
  by_cases hj : j = k
  · rw [if_pos hj, if_pos (by omega), ← h, hj]
  · rw [if_neg hj]
    by_cases h2 : j < k
    · rw [if_pos h2, if_pos (by omega)]
    · rw [if_neg h2, if_neg (by omega)]
theorem rebT_zero (T : Nat → TagsE) (off : Int) (n : Nat) : tagsL (rebT T off 0) n = tagsL T n := tagsL_congr fun j _ => by unfold rebT; rw [if_neg (by omega)]
/-- is a time brought down? -/
def lateB (V : Int) (n : Nat) (T : Nat → TagsE) : Bool := vokB V n T && decide (1125899906842624 < V)
def RebP (w : World) (V : Int) (n : Nat) (T : Nat → TagsE) (e : Ending) (w' : World) : Prop := ∃ v, e = .returned v ∧ match lateB V n T with
  | true => VOut w w' v 1099511627776 n (rebT T (V - 1099511627776) n)
  | false => VOut w w' v V n T
theorem reb_ok {T : Nat → TagsE} {off : Int} {n : Nat} (h0 : 0 ≤ off) (h1 : off ≤ 1152921504606846976) (hT : ∀ k, k < n → (T k).ok) (k : Nat) (hk : k < n) : (rebT T off n k).ok := by
  have := hT k hk
  unfold rebT
  rw [if_pos hk]
  unfold TagsE.ok at this ⊢
  unfold rebE
  simp only
  omega

set_option maxRecDepth 100000 in
set_option maxHeartbeats 8000000 in
theorem rebase_keep (V : Int) (a : Option Addr) (n c b o : Nat) (T : Nat → TagsE) (w : World) (hs : TagsIn w a n c b o T) (hn : n * 16 ≤ 140737488351232) (hh : vokB V n T = false ∨ (vokB V n T = true ∧ V ≤ 1125899906842624)) :
    Calls Try.prog 31 #[.agg #[.int .i64 V, .slice a n c]] w fun e w' => ∃ v, e = .returned v ∧ VOut w w' v V n T := by
  have HQ := Lib.hid (VB2.mk0 w #[.int .i64 V, .slice a n c] #[.int .i64 0, .slice none 0 0] 39 39)
  have HS := Lib.hid hs
  obtain ⟨C, hC⟩ : ∃ C, C = vokB V n T := ⟨_, rfl⟩
  have C1 : Hid (∀ W, TagsIn W a n c b o T → Calls Try.prog 42 #[.agg #[.int .i64 V, .slice a n c]] W fun e w' => e = .returned (.bool C) ∧ Below W.heap.size W w') := Lib.hid (fun W h => by rw [hC]; exact check_any V a n c b o T W h)
  have C3 := Lib.hid (fun W h => twin_any V a n c b o T W h hn)
  rw [← hC] at hh
  clear hs hC
  rcases hh with rfl | ⟨rfl, h⟩
  all_goals
    go_enter Try.func31, Try.ntmps31
    go_wp2_with fail
    go_at_call 48
    refine Calls.mono (C3.out _ (HS.out.below HQ.out.2.2)) ?_
    rintro e W1 ⟨v1, rfl, hV1⟩
    obtain ⟨a2, c2, ob2, rfl, hR, hO, hB⟩ := hV1
    have HQ1 := Lib.hid (HQ.out.step hB)
    have hy : Below W1.heap.size W1 (W1.alloc (.cells #[.int .i64 V, .slice a2 n c2] 39)) := (Below.refl _ _).alloc (Nat.le_refl _) _
    have HQ2 := Lib.hid (HQ1.out.step hy)
    have HR := Lib.hid hR
    have HO := Lib.hid hO
    have r0 : W1.cell? ⟨w.heap.size, 0, none⟩ = some (.int .i64 V) := HQ1.out.1.1 0
    have r1 : W1.cell? ⟨w.heap.size, 1, none⟩ = some (.slice a n c) := HQ1.out.1.1 1
    have z0 := HQ1.out.1.2.2
    have zz := HQ1.out.2.1.2.2
    clear hR hO hB hy
    go_wp2_with fail
    go_at_call 42
    refine Calls.mono (C1.out _ (HS.out.below HQ2.out.2.2)) ?_
    rintro e W3 ⟨rfl, hB3⟩
    have hx := tw1 (n := W1.heap.size) hB3 rfl
    have HQ3 := Lib.hid (HQ2.out.step hB3)
    have HB3 := Lib.hid hB3
    have x0 := hx.1
    have x1 := hx.2.1
    have x2 := hx.2.2
    clear r0 r1 z0 hx hB3
    have r0 : W3.cell? ⟨w.heap.size, 0, none⟩ = some (.int .i64 V) := HQ3.out.1.1 0
    have z0 := HQ3.out.1.2.2
    have y0 := HQ3.out.2.1.1
    have y1 := HQ3.out.2.1.2.1
    have y2 := HQ3.out.2.1.2.2
    go_wp2_with fail
    refine bodyPost_ret (v := .agg #[.int .i64 V, .slice a2 n c2]) (by simp [results, Try.results31, go_sem, y0, y1, y2]) rfl ⟨_, rfl, a2, c2, ob2, rfl, ?_, ?_, ?_⟩
    · refine HR.out.congr fun g e => ?_
      have := HO.out g e
      have hlt : g < W1.heap.size := by subst e; exact HR.out.lt
      simp only [World.size_alloc] at this
      rw [heap_setCell_ne _ _ _ _ (by simp only; omega), heap_setCell_ne _ _ _ _ (by simp only; omega), HB3.out.block _ (by simp; omega), Below.heap_alloc _ _ _ hlt]
    · exact fun g e => by have := HO.out g e; simp only [World.size_alloc] at this; omega
    · exact (HQ3.out.2.2.setCell (by simp only; omega) _).setCell (by simp only; omega) _

theorem Holds.other {X : World} {n : Nat} {c : Array Value} (h : Holds X n c) (b j : Nat) (u : Value) (hb : b ≠ n) : Holds (X.setCell ⟨b, j, none⟩ u) n c :=
  ⟨fun i => (World.cell?_of_block (a := ⟨n, i, none⟩) (heap_setCell_ne X ⟨b, j, none⟩ u n (by simp only; omega))).trans (h.1 i), fun i => by
    have := h.2.1 i
    unfold World.frozen? at this ⊢
    rw [heap_setCell_ne X ⟨b, j, none⟩ u n (by simp only; omega)]
    exact this, by have := h.2.2; simpa using this⟩
/-- times on their way down -/
def RebR (w W1 : World) (V : Int) (a : Option Addr) (n c : Nat) (a2 : Option Addr) (c2 : Nat) (ob2 : Option Nat) (T : Nat → TagsE) (off : Int) (B : Int) (k : Nat) (wr : World) : Prop :=
  Row wr (.slice a2 n c2) ob2 80 2 n (tagsL (rebT T off k) n) ∧ Holds wr w.heap.size #[.int .i64 V, .slice a n c] ∧ Holds wr (w.heap.size + 1) #[.int .i64 0, .slice none 0 0] ∧ Holds wr W1.heap.size #[.int .i64 B, .slice a2 n c2] ∧ Below w.heap.size w wr

set_option maxRecDepth 100000 in
set_option maxHeartbeats 8000000 in
theorem rebase_down (V : Int) (a : Option Addr) (n c b o : Nat) (T : Nat → TagsE) (w : World) (hs : TagsIn w a n c b o T) (hn : n * 16 ≤ 140737488351232) (hv : vokB V n T = true) (hV : 1125899906842624 < V) :
    Calls Try.prog 31 #[.agg #[.int .i64 V, .slice a n c]] w fun e w' => ∃ v, e = .returned v ∧ VOut w w' v 1099511627776 n (rebT T (V - 1099511627776) n) := by
  have hm := hs.max
  have hl := hs.le
  unfold maxLen at hm
  have hVV := vok_V hv
  have HV := Lib.hid hv
  have HQ := Lib.hid (VB2.mk0 w #[.int .i64 V, .slice a n c] #[.int .i64 0, .slice none 0 0] 39 39)
  have HS := Lib.hid hs
  have C1 : Hid (∀ W, TagsIn W a n c b o T → Calls Try.prog 42 #[.agg #[.int .i64 V, .slice a n c]] W fun e w' => e = .returned (.bool true) ∧ Below W.heap.size W w') := Lib.hid (fun W h => by rw [← hv]; exact check_any V a n c b o T W h)
  have C3 := Lib.hid (fun W h => twin_any V a n c b o T W h hn)
  clear hs hv
  go_enter Try.func31, Try.ntmps31
  go_wp2_with fail
  go_at_call 48
  refine Calls.mono (C3.out _ (HS.out.below HQ.out.2.2)) ?_
  rintro e W1 ⟨v1, rfl, hV1⟩
  obtain ⟨a2, c2, ob2, rfl, hR, hO, hB⟩ := hV1
  have HQ1 := Lib.hid (HQ.out.step hB)
  have hy : Below W1.heap.size W1 (W1.alloc (.cells #[.int .i64 V, .slice a2 n c2] 39)) := (Below.refl _ _).alloc (Nat.le_refl _) _
  have HQ2 := Lib.hid (HQ1.out.step hy)
  have HR := Lib.hid hR
  have HO := Lib.hid hO
  have r0 : W1.cell? ⟨w.heap.size, 0, none⟩ = some (.int .i64 V) := HQ1.out.1.1 0
  have r1 : W1.cell? ⟨w.heap.size, 1, none⟩ = some (.slice a n c) := HQ1.out.1.1 1
  have z0 := HQ1.out.1.2.2
  have zz := HQ1.out.2.1.2.2
  have hcap : n ≤ c2 ∧ c2 ≤ maxLen := by obtain ⟨_, _, he, h1, h2, _⟩ := hR.shape; injection he with _ _ h3; subst h3; exact ⟨h1, h2⟩
  obtain ⟨hc1, hc2⟩ := hcap
  unfold maxLen at hc2
  clear hR hO hB hy
  go_wp2_with fail
  go_at_call 42
  refine Calls.mono (C1.out _ (HS.out.below HQ2.out.2.2)) ?_
  rintro e W3 ⟨rfl, hB3⟩
  have hx := tw1 (n := W1.heap.size) hB3 rfl
  have HQ3 := Lib.hid (HQ2.out.step hB3)
  have hR3 : Row W3 (.slice a2 n c2) ob2 80 2 n (tagsL T n) := HR.out.congr fun g e => by
    have hlt : g < W1.heap.size := by subst e; exact HR.out.lt
    rw [hB3.block _ (by simp; omega), Below.heap_alloc _ _ _ hlt]
  have HR3 := Lib.hid hR3
  have HX := Lib.hid hx
  have x0 : W3.cell? ⟨W1.heap.size, 0, none⟩ = some (.int .i64 V) := hx.1 0
  have x1 : W3.cell? ⟨W1.heap.size, 1, none⟩ = some (.slice a2 n c2) := hx.1 1
  have x2 := hx.2.2
  clear r0 r1 z0 hx hB3 hR3
  have r0 : W3.cell? ⟨w.heap.size, 0, none⟩ = some (.int .i64 V) := HQ3.out.1.1 0
  have z0 := HQ3.out.1.2.2
  have b1 : decide (V ≤ 1125899906842624) = false := by simp; omega
  have hOb : ∀ g, ob2 = some g → w.heap.size + 1 < g ∧ g < W1.heap.size := fun g e => by
    have := HO.out g e
    simp only [World.size_alloc] at this
    have hlt : g < W1.heap.size := by subst e; exact HR.out.lt
    omega
  have HOB := Lib.hid hOb
  clear hOb
  go_wp2_with fail
  go_loopw [24] (fun i wr => ∃ k : Nat, k ≤ n ∧ i = .int .i64 k ∧ RebR w W1 V a n c a2 c2 ob2 T (V - 1099511627776) V k wr) (fun i _ => n - (intOf i).toNat)
  case atStart => exact ⟨0, Nat.zero_le _, rfl, by rw [rebT_zero]; exact HR3.out, HQ3.out.1, HQ3.out.2.1, HX.out, HQ3.out.2.2⟩
  case round =>
    clear r0 z0 x0 x1 x2
    obtain ⟨k, hk, rfl, hrow, hh0, hh1, hh2, hbel⟩ := hrel
    by_cases hlt : k < n
    · have T3 := own_k hrow hlt
      obtain ⟨g2, rfl, rfl, hg2, u0, u1, v0, v1⟩ := T3
      obtain ⟨q1, q2⟩ := HOB.out g2 rfl
      have hvk := vok_at HV.out hlt
      have hrk : rebT T (V - 1099511627776) k k = T k := by unfold rebT; rw [if_neg (by omega)]
      rw [hrk] at u0 u1
      obtain ⟨s, hs⟩ : ∃ s, s = (T k).s := ⟨_, rfl⟩
      obtain ⟨f, hf⟩ : ∃ f, f = (T k).f := ⟨_, rfl⟩
      rw [← hs] at u0
      rw [← hf] at u1
      rw [← hs, ← hf] at hvk
      obtain ⟨ms, hms⟩ : ∃ ms, ms = max s (V - 1099511627776) := ⟨_, rfl⟩
      obtain ⟨mf, hmf⟩ : ∃ mf, mf = max f (V - 1099511627776) := ⟨_, rfl⟩
      have hi1 : (if s < V - 1099511627776 then V - 1099511627776 else s) = ms := by rw [hms]; split <;> omega
      have hi2 : (if f < V - 1099511627776 then V - 1099511627776 else f) = mf := by rw [hmf]; split <;> omega
      have HE : Hid (rebE (V - 1099511627776) (T k) = ⟨ms - (V - 1099511627776), mf - (V - 1099511627776)⟩) := Lib.hid (by unfold rebE; rw [← hs, ← hf, ← hms, ← hmf])
      have hb1 : V - 1099511627776 ≤ ms := by omega
      have hb2 : ms ≤ 1152921504606846976 := by omega
      have hb3 : V - 1099511627776 ≤ mf := by omega
      have hb4 : mf ≤ 1152921504606846976 := by omega
      have o1 : wr.cell? ⟨W1.heap.size, 1, none⟩ = some (.slice (some ⟨g2, 0, none⟩) n c2) := hh2.1 1
      have o2 := hh2.2.2
      have HROW := Lib.hid hrow
      have HH0 := Lib.hid hh0
      have HH1 := Lib.hid hh1
      have HH2 := Lib.hid hh2
      have HBL := Lib.hid hbel
      have n1 : (g2 = wr.heap.size) = False := eq_false (by omega)
      have n2 : (wr.heap.size = g2) = False := eq_false (by omega)
      have n3 : (wr.heap.size = W1.heap.size) = False := eq_false (by omega)
      have n4 : (W1.heap.size = wr.heap.size) = False := eq_false (by omega)
      have n5 : g2 < wr.heap.size + 1 := by omega
      clear hrow hh0 hh1 hh2 hbel hs hf hms hmf hrk
      go_wp2_with fail
      go_roundw
      case rel =>
        have hal : ∀ (Y : World) (o : Obj), Below Y.heap.size Y (Y.alloc o) := fun Y o => (Below.refl _ _).alloc (Nat.le_refl _) _
        refine ⟨k + 1, by omega, by go_num, ?_, ?_, ?_, ?_, ?_⟩
        · rw [← rebT_step HE.out]
          exact (row_tag HROW.out hlt).alloc _
        · exact Holds.step (Holds.other (Holds.other HH0.out _ _ _ (by omega)) _ _ _ (by omega)) (hal _ _)
        · exact Holds.step (Holds.other (Holds.other HH1.out _ _ _ (by omega)) _ _ _ (by omega)) (hal _ _)
        · exact Holds.step (Holds.other (Holds.other HH2.out _ _ _ (by omega)) _ _ _ (by omega)) (hal _ _)
        · have hz := HBL.out.size
          exact ((HBL.out.setCell (by simp only; omega) _).setCell (by simp only; omega) _).alloc (by simp; omega) _
      case measure => simp [intOf]; omega
    · obtain rfl : k = n := by omega
      have o0 := hh2.1
      have o1 := hh2.2.1
      have o2 := hh2.2.2
      have y0 := hh1.1
      have y1 := hh1.2.1
      have y2 := hh1.2.2
      have HROW := Lib.hid hrow
      have HBL := Lib.hid hbel
      clear hrow hh0 hh1 hh2 hbel
      have n3 : (w.heap.size + 1 = W1.heap.size) = False := eq_false (by omega)
      have n4 : (W1.heap.size = w.heap.size + 1) = False := eq_false (by omega)
      go_wp2_with fail
      refine bodyPost_ret (v := .agg #[.int .i64 1099511627776, .slice a2 k c2]) (by simp [results, Try.results31, go_sem, y0, y1, y2, o0, o1, o2, n3, n4]) rfl ⟨_, rfl, a2, c2, ob2, rfl, ?_, ?_, ?_⟩
      · refine HROW.out.congr fun g e => ?_
        obtain ⟨q1, q2⟩ := HOB.out g e
        rw [heap_setCell_ne _ _ _ _ (by simp only; omega), heap_setCell_ne _ _ _ _ (by simp only; omega), heap_setCell_ne _ _ _ _ (by simp only; omega)]
      · exact fun g e => by have := (HOB.out g e).1; omega
      · exact ((HBL.out.setCell (by simp only; omega) _).setCell (by simp only; omega) _).setCell (by simp only; omega) _
end Go.Proofs.Ytnainlemnkfpkaa
