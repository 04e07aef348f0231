/-
  A rising row with another session in it: lay.
-/
import Derived.Test.YtnaoajdbopminaaSe5
namespace Go.Proofs.Ytnaoajdbopminaa
open Go.RowKit
set_option linter.unusedSimpArgs false
set_option linter.unusedVariables false

/-- where a client's session belongs among the first n -/
def cutS (S : Nat → SeE) (c : Int) : Nat → Nat
  | 0 => 0
  | n + 1 => if cutS S c n < n then cutS S c n else if (S n).client < c then n + 1 else n
theorem cut_spec (S : Nat → SeE) (c : Int) : ∀ n, cutS S c n ≤ n ∧ (∀ j, j < cutS S c n → (S j).client < c) ∧ (cutS S c n < n → c ≤ (S (cutS S c n)).client)
  | 0 => ⟨Nat.le_refl _, fun j hj => absurd hj (by simp [cutS]), fun h => absurd h (by simp [cutS])⟩
  | n + 1 => by
    obtain ⟨h1, h2, h3⟩ := cut_spec S c n
    unfold cutS
    by_cases hk : cutS S c n < n
    · rw [if_pos hk]
      exact ⟨by omega, h2, fun _ => h3 hk⟩
    · rw [if_neg hk]
      have hn : cutS S c n = n := by omega
      rw [hn] at h2
      by_cases hc : (S n).client < c
      · rw [if_pos hc]
        exact ⟨Nat.le_refl _, fun j hj => by by_cases hjn : j = n; subst hjn; exact hc; exact h2 j (by omega), fun h => by omega⟩
      · rw [if_neg hc]
        exact ⟨by omega, h2, fun _ => by omega⟩
theorem cut_uniq {S : Nat → SeE} {c : Int} {n k : Nat} (h1 : k ≤ n) (h2 : ∀ j, j < k → (S j).client < c) (h3 : k < n → c ≤ (S k).client) : cutS S c n = k := by
  obtain ⟨q1, q2, q3⟩ := cut_spec S c n
  rcases Nat.lt_trichotomy (cutS S c n) k with h | h | h
  · have := h2 _ h; have := q3 (by omega); omega
  · exact h
  · have := q2 _ h; have := h3 (by omega); omega

/-- is the next one the client's own? -/
def dS (S : Nat → SeE) (n : Nat) (c : Int) : Nat := if cutS S c n < n ∧ (S (cutS S c n)).client = c then 1 else 0
/-- one more behind k; d of the others go -/
def keepT (S : Nat → SeE) (k d : Nat) (x : SeE) (j : Nat) : SeE := if j < k then S j else if j = k then x else S (j - 1 + d)
theorem keepT_row (S : Nat → SeE) (k d : Nat) (x : SeE) : ∀ r : Nat, seL (keepT S k d x) (k + 1 + r) = seL S k ++ x.cells ++ seL (fun j => S (k + d + j)) r
  | 0 => by
    rw [Nat.add_zero, seL_succ]
    have e1 : seL (keepT S k d x) k = seL S k := seL_congr (fun j hj => by unfold keepT; rw [if_pos hj])
    have e2 : keepT S k d x k = x := by unfold keepT; rw [if_neg (by omega), if_pos rfl]
    rw [e1, e2]
    simp [seL]
  | r + 1 => by
    rw [show k + 1 + (r + 1) = (k + 1 + r) + 1 by omega, seL_succ, keepT_row S k d x r, seL_succ]
    have e2 : keepT S k d x (k + 1 + r) = S (k + d + r) := by unfold keepT; rw [if_neg (by omega), if_neg (by omega)]; congr 1; omega
    rw [e2]
    simp

set_option maxRecDepth 100000 in
theorem key_any (x : SeE) (w : World) : Calls Try.prog 83 #[.agg #[.int .i64 x.client, .int .i64 x.number, .int .i64 x.e, .int .i64 x.rate, .int .i64 x.burst, .int .i64 x.lease, .int .i64 x.size]] w fun e w' => e = .returned (.int .i64 x.client) ∧ Below w.heap.size w w' := by
  go_enter Try.func83, Try.ntmps83
  go_wp2_with fail
  go_ret
  exact ⟨rfl, (Below.refl _ _).alloc (Nat.le_refl _) _⟩

def sc (x : SeE) : Array Value := #[.int .i64 x.client, .int .i64 x.number, .int .i64 x.e, .int .i64 x.rate, .int .i64 x.burst, .int .i64 x.lease, .int .i64 x.size]

def pcs (p1 px p3 : PcE) : Nat → PcE
  | 0 => p1
  | 1 => px
  | _ => p3
theorem concat3 (M2 M1 : Nat) (p1 p3 : PcE) (x : SeE) (X : World) (hb : Blk X M2 #[.slice p1.a p1.n p1.c, .slice (some ⟨M1, 0, none⟩) 1 1, .slice p3.a p3.n p3.c] 71) (hx : Blk X M1 #[.int .i64 x.client, .int .i64 x.number, .int .i64 x.e, .int .i64 x.rate, .int .i64 x.burst, .int .i64 x.lease, .int .i64 x.size] 113) (h1 : PcIn X p1) (h3 : PcIn X p3) (hsum : p1.n + 1 + p3.n ≤ 5000) :
    Calls Try.prog 96 #[.slice (some ⟨M2, 0, none⟩) 3 3] X fun e w' => ∃ v ob, e = .returned v ∧ Row w' v (some ob) 113 7 (p1.n + 1 + p3.n) (p1.xs ++ x.cells ++ p3.xs) ∧ X.heap.size ≤ ob ∧ Below X.heap.size X w' := by
  have hpx : PcIn X ⟨some ⟨M1, 0, none⟩, 1, 1, M1, 0, x.cells⟩ := ⟨rfl, Nat.le_refl _, by simp only; unfold maxLen; omega, fun _ => ⟨rfl, hx.lt⟩, fun j hj => by
      simp only at hj ⊢
      rw [Nat.zero_add, cell_at hx]
      simp [SeE.cells], fun u hu => by
      have : x.cells.all (fun u => u.oneCell') = true := rfl
      exact List.all_eq_true.1 this u hu⟩
  have h := concat_se M2 3 3 (pcs p1 ⟨some ⟨M1, 0, none⟩, 1, 1, M1, 0, x.cells⟩ p3) X hb.lt (Nat.le_refl _) (by omega) (fun k hk => by
      match k, hk with
      | 0, _ => exact cell_at hb 0
      | 1, _ => exact cell_at hb 1
      | 2, _ => exact cell_at hb 2) (fun k hk => by
      match k, hk with
      | 0, _ => exact h1
      | 1, _ => exact hpx
      | 2, _ => exact h3) (by simp only [cntP, pcs]; omega) (by simp only [cntP, pcs]; omega)
  refine h.mono ?_
  rintro e w' ⟨v, ob, q0, q1, q2, q3⟩
  refine ⟨v, ob, q0, ?_, q2, q3⟩
  have e1 : cntP (pcs p1 ⟨some ⟨M1, 0, none⟩, 1, 1, M1, 0, x.cells⟩ p3) 3 = p1.n + 1 + p3.n := by simp only [cntP, pcs]; omega
  have e2 : flatP (pcs p1 ⟨some ⟨M1, 0, none⟩, 1, 1, M1, 0, x.cells⟩ p3) 3 = p1.xs ++ x.cells ++ p3.xs := by simp [flatP, pcs]
  rw [e1, e2] at q1
  exact q1
theorem seL_one (S : Nat → SeE) (n : Nat) : ∀ u ∈ seL S n, u.oneCell' = true := by
  intro u hu
  simp only [seL, List.mem_flatMap] at hu
  obtain ⟨k, _, hk⟩ := hu
  have : (S k).cells.all (fun u => u.oneCell') = true := rfl
  exact List.all_eq_true.1 this u hk
/-- a stretch of sessions that came in -/
theorem pc_in {W : World} {a : Option Addr} {n cap b o : Nat} {S : Nat → SeE} (h : SeIn W a n cap b o S) (f r c : Nat) (hf : f + r ≤ n) (hrc : r ≤ c) (hcm : c ≤ maxLen) (a' : Option Addr) (ha : 0 < r → a' = some ⟨b, o + f * 7, none⟩) : PcIn W ⟨a', r, c, b, o + f * 7, seL (fun j => S (f + j)) r⟩ := by
  refine ⟨seL_len _ _, hrc, hcm, fun hr => ⟨ha hr, (h.at_ (by simp only at hr; omega)).2⟩, fun j hj => ?_, seL_one _ _⟩
  simp only at hj ⊢
  obtain ⟨q, i, hi, rfl⟩ : ∃ q i, i < 7 ∧ j = q * 7 + i := ⟨j / 7, j % 7, Nat.mod_lt _ (by omega), by omega⟩
  have hq : q < r := by omega
  rw [seL_at _ r q i hq hi]
  obtain ⟨c0, c1, c2, c3, c4, c5, c6⟩ := h.cell (f + q) (by omega)
  have e : ∀ i, o + f * 7 + (q * 7 + i) = o + (f + q) * 7 + i := fun i => by omega
  match i, hi with
  | 0, _ => rw [e]; exact c0
  | 1, _ => rw [e]; exact c1
  | 2, _ => rw [e]; exact c2
  | 3, _ => rw [e]; exact c3
  | 4, _ => rw [e]; exact c4
  | 5, _ => rw [e]; exact c5
  | 6, _ => rw [e]; exact c6

set_option maxRecDepth 100000 in
set_option maxHeartbeats 8000000 in
theorem lay_any (x : SeE) (a : Option Addr) (n cap b o : Nat) (S : Nat → SeE) (w : World) (hs : SeIn w a n cap b o S) (hn : n ≤ 200) :
    Calls Try.prog 82 #[.slice a n cap, .agg #[.int .i64 x.client, .int .i64 x.number, .int .i64 x.e, .int .i64 x.rate, .int .i64 x.burst, .int .i64 x.lease, .int .i64 x.size], .func (.func 83) #[] #[]] w fun e w' => ∃ v ob k d, e = .returned v ∧ k = cutS S x.client n ∧ d = dS S n x.client ∧ Row w' v (some ob) 113 7 (k + 1 + (n - k - d)) (seL (keepT S k d x) (k + 1 + (n - k - d))) ∧ w.heap.size ≤ ob ∧ Below w.heap.size w w' := by
  have m1 := hs.le
  have m2 := hs.max
  unfold maxLen at m2
  obtain ⟨N, hN⟩ : ∃ N, N = w.heap.size := ⟨_, rfl⟩
  obtain ⟨W1, hW1⟩ : ∃ W1, W1 = w.alloc (.cells #[.int .i64 x.client, .int .i64 x.number, .int .i64 x.e, .int .i64 x.rate, .int .i64 x.burst, .int .i64 x.lease, .int .i64 x.size] 113) := ⟨_, rfl⟩
  have hB1 : Below w.heap.size w W1 := by rw [hW1]; exact (Below.refl _ _).alloc (Nat.le_refl _) _
  have hx1 : Blk W1 N #[.int .i64 x.client, .int .i64 x.number, .int .i64 x.e, .int .i64 x.rate, .int .i64 x.burst, .int .i64 x.lease, .int .i64 x.size] 113 := by rw [hW1, hN]; exact blk_new _ _ _
  have HB1 := Lib.hid hB1
  have HX1 := Lib.hid hx1
  have HS := Lib.hid hs
  have HN := Lib.hid hN
  clear hs hB1 hx1
  go_enter Try.func82, Try.ntmps82
  go_upto_region 1 with fail
  rw [← hN, ← hW1]
  clear hN hW1
  go_wp2_with fail
  go_loopw [7] (fun i wr => ∃ k : Nat, k ≤ n ∧ i = .int .i64 k ∧ (∀ j, j < k → (S j).client < x.client) ∧ Blk wr N #[.int .i64 x.client, .int .i64 x.number, .int .i64 x.e, .int .i64 x.rate, .int .i64 x.burst, .int .i64 x.lease, .int .i64 x.size] 113 ∧ Below w.heap.size w wr) (fun i _ => n - (intOf i).toNat)
  case atStart => exact ⟨0, Nat.zero_le _, rfl, (fun j hj => by omega), HX1.out, HB1.out⟩
  case round =>
    obtain ⟨k, hk, rfl, hlow, hx, hB⟩ := hrel
    have HLOW := Lib.hid hlow
    have HX := Lib.hid hx
    have HB := Lib.hid hB
    clear hlow hx hB HX1 HB1
    by_cases hlt : k < n
    · have hsr := HS.out.below HB.out
      obtain ⟨e0, e1⟩ := hsr.at_ (by omega)
      subst e0
      obtain ⟨y, hy⟩ : ∃ y, y = S k := ⟨_, rfl⟩
      have HCL : Hid (∀ X, Below w.heap.size w X → X.cell? ⟨b, o + k * 7, none⟩ = some (.int .i64 y.client) ∧ X.cell? ⟨b, o + k * 7 + 1, none⟩ = some (.int .i64 y.number) ∧ X.cell? ⟨b, o + k * 7 + 2, none⟩ = some (.int .i64 y.e) ∧ X.cell? ⟨b, o + k * 7 + 3, none⟩ = some (.int .i64 y.rate) ∧ X.cell? ⟨b, o + k * 7 + 4, none⟩ = some (.int .i64 y.burst) ∧ X.cell? ⟨b, o + k * 7 + 5, none⟩ = some (.int .i64 y.lease) ∧ X.cell? ⟨b, o + k * 7 + 6, none⟩ = some (.int .i64 y.size) ∧ b < X.heap.size) := Lib.hid (fun X hX => by
        have q := (HS.out.below hX).cell k hlt
        rw [← hy] at q
        obtain ⟨q0, q1, q2, q3, q4, q5, q6⟩ := q
        exact ⟨q0, q1, q2, q3, q4, q5, q6, ((HS.out.below hX).at_ (by omega)).2⟩)
      have HXX : Hid (∀ X, Blk X N #[.int .i64 x.client, .int .i64 x.number, .int .i64 x.e, .int .i64 x.rate, .int .i64 x.burst, .int .i64 x.lease, .int .i64 x.size] 113 → X.cell? ⟨N, 0, none⟩ = some (.int .i64 x.client) ∧ X.cell? ⟨N, 1, none⟩ = some (.int .i64 x.number) ∧ X.cell? ⟨N, 2, none⟩ = some (.int .i64 x.e) ∧ X.cell? ⟨N, 3, none⟩ = some (.int .i64 x.rate) ∧ X.cell? ⟨N, 4, none⟩ = some (.int .i64 x.burst) ∧ X.cell? ⟨N, 5, none⟩ = some (.int .i64 x.lease) ∧ X.cell? ⟨N, 6, none⟩ = some (.int .i64 x.size) ∧ N < X.heap.size) := Lib.hid (fun X h => ⟨cell_at h 0, cell_at h 1, cell_at h 2, cell_at h 3, cell_at h 4, cell_at h 5, cell_at h 6, h.lt⟩)
      have HY := Lib.hid hy
      clear hsr hy
      go_wp2_with fail
      refine wp_region_held_drew (S := fun X => (X.cell? ⟨b, o + k * 7, none⟩ = some (.int .i64 y.client) ∧ X.cell? ⟨b, o + k * 7 + 1, none⟩ = some (.int .i64 y.number) ∧ X.cell? ⟨b, o + k * 7 + 2, none⟩ = some (.int .i64 y.e) ∧ X.cell? ⟨b, o + k * 7 + 3, none⟩ = some (.int .i64 y.rate) ∧ X.cell? ⟨b, o + k * 7 + 4, none⟩ = some (.int .i64 y.burst) ∧ X.cell? ⟨b, o + k * 7 + 5, none⟩ = some (.int .i64 y.lease) ∧ X.cell? ⟨b, o + k * 7 + 6, none⟩ = some (.int .i64 y.size) ∧ b < X.heap.size) ∧ X.cell? ⟨N, 0, none⟩ = some (.int .i64 x.client) ∧ X.cell? ⟨N, 1, none⟩ = some (.int .i64 x.number) ∧ X.cell? ⟨N, 2, none⟩ = some (.int .i64 x.e) ∧ X.cell? ⟨N, 3, none⟩ = some (.int .i64 x.rate) ∧ X.cell? ⟨N, 4, none⟩ = some (.int .i64 x.burst) ∧ X.cell? ⟨N, 5, none⟩ = some (.int .i64 x.lease) ∧ X.cell? ⟨N, 6, none⟩ = some (.int .i64 x.size) ∧ N < X.heap.size) (by kernel_rfl) ⟨HCL.out _ HB.out.drew, HXX.out wr.drew HX.out⟩ (fun hHeld => ?_)
      ((refine wpAnyH_take (i := 0) (v := ?_) (by (simp only [List.getElem?_toArray, List.getElem?_cons_succ, List.getElem?_cons_zero]); rfl) (by kernel_rfl) (by kernel_rfl) (by kernel_rfl) (by exact fun _ _ _ h => h) (Or.inl ⟨by rfl, ?_⟩) (by assumption) ?_); rotate_left; focus (intro wS hSw; (try dsimp only at hSw); go_simp; first | done | with_reducible rfl); try simp only [Act.put, List.setIfInBounds_toArray, List.set_cons_zero, List.set_cons_succ])
      ((refine wpAnyH_take (i := 1) (v := ?_) (by (simp only [List.getElem?_toArray, List.getElem?_cons_succ, List.getElem?_cons_zero]); rfl) (by kernel_rfl) (by kernel_rfl) (by kernel_rfl) (by exact fun _ _ _ h => h) (Or.inl ⟨by rfl, ?_⟩) (by assumption) ?_); rotate_left; focus (intro wS hSw; (try dsimp only at hSw); go_simp; first | done | with_reducible rfl); try simp only [Act.put, List.setIfInBounds_toArray, List.set_cons_zero, List.set_cons_succ])
      ((refine wpAnyH_take (i := 2) (v := ?_) (by (simp only [List.getElem?_toArray, List.getElem?_cons_succ, List.getElem?_cons_zero]); rfl) (by kernel_rfl) (by kernel_rfl) (by kernel_rfl) (by exact fun _ _ _ h => h) (Or.inl ⟨by rfl, ?_⟩) (by assumption) ?_); rotate_left; focus (intro wS hSw; (try dsimp only at hSw); go_simp; first | done | with_reducible rfl); try simp only [Act.put, List.setIfInBounds_toArray, List.set_cons_zero, List.set_cons_succ])
      ((refine wpAnyH_take (i := 3) (v := ?_) (by (simp only [List.getElem?_toArray, List.getElem?_cons_succ, List.getElem?_cons_zero]); rfl) (by kernel_rfl) (by kernel_rfl) (by kernel_rfl) (by exact fun _ _ _ h => h) (Or.inl ⟨by rfl, ?_⟩) (by assumption) ?_); rotate_left; focus (intro wS hSw; (try dsimp only at hSw); go_simp; first | done | with_reducible rfl); try simp only [Act.put, List.setIfInBounds_toArray, List.set_cons_zero, List.set_cons_succ])
      ((refine wpAnyH_take (i := 4) (v := ?_) (by (simp only [List.getElem?_toArray, List.getElem?_cons_succ, List.getElem?_cons_zero]); rfl) (by kernel_rfl) (by kernel_rfl) (by kernel_rfl) (by exact fun _ _ _ h => h) (Or.inl ⟨by rfl, ?_⟩) (by assumption) ?_); rotate_left; focus (intro wS hSw; (try dsimp only at hSw); go_simp; first | done | with_reducible rfl); try simp only [Act.put, List.setIfInBounds_toArray, List.set_cons_zero, List.set_cons_succ])
      ((refine wpAnyH_take (i := 5) (v := ?_) (by (simp only [List.getElem?_toArray, List.getElem?_cons_succ, List.getElem?_cons_zero]); rfl) (by kernel_rfl) (by kernel_rfl) (by kernel_rfl) (by exact fun _ _ _ h => h) (Or.inl ⟨by (go_simp; try rfl), ?_⟩) (by assumption) ?_); rotate_left; focus (intro wS hSw; (try dsimp only at hSw); go_simp; first | done | with_reducible rfl); try simp only [Act.put, List.setIfInBounds_toArray, List.set_cons_zero, List.set_cons_succ])
      ((refine wpAnyH_take (i := 6) (v := ?_) (by (simp only [List.getElem?_toArray, List.getElem?_cons_succ, List.getElem?_cons_zero]); rfl) (by kernel_rfl) (by kernel_rfl) (by kernel_rfl) (by exact fun _ _ _ h => h) (Or.inl ⟨by (go_simp; try rfl), ?_⟩) (by assumption) ?_); rotate_left; focus (intro wS hSw; (try dsimp only at hSw); go_simp; first | done | with_reducible rfl); try simp only [Act.put, List.setIfInBounds_toArray, List.set_cons_zero, List.set_cons_succ])
      ((refine wpAnyH_take (i := 7) (v := ?_) (by (simp only [List.getElem?_toArray, List.getElem?_cons_succ, List.getElem?_cons_zero]); rfl) (by kernel_rfl) (by kernel_rfl) (by kernel_rfl) (by exact fun _ _ _ h => h) (Or.inl ⟨by (go_simp; try rfl), ?_⟩) (by assumption) ?_); rotate_left; focus (intro wS hSw; (try dsimp only at hSw); go_simp; first | done | with_reducible rfl); try simp only [Act.put, List.setIfInBounds_toArray, List.set_cons_zero, List.set_cons_succ])
      ((refine wpAnyH_take (i := 8) (v := ?_) (by (simp only [List.getElem?_toArray, List.getElem?_cons_succ, List.getElem?_cons_zero]); rfl) (by kernel_rfl) (by kernel_rfl) (by kernel_rfl) (by exact fun _ _ _ h => h) (Or.inl ⟨by (go_simp; try rfl), ?_⟩) (by assumption) ?_); rotate_left; focus (intro wS hSw; (try dsimp only at hSw); go_simp; first | done | with_reducible rfl); try simp only [Act.put, List.setIfInBounds_toArray, List.set_cons_zero, List.set_cons_succ])
      ((refine wpAnyH_take (i := 9) (v := ?_) (by (simp only [List.getElem?_toArray, List.getElem?_cons_succ, List.getElem?_cons_zero]); rfl) (by kernel_rfl) (by kernel_rfl) (by kernel_rfl) (by exact fun _ _ _ h => h) (Or.inl ⟨by (go_simp; try rfl), ?_⟩) (by assumption) ?_); rotate_left; focus (intro wS hSw; (try dsimp only at hSw); go_simp; first | done | with_reducible rfl); try simp only [Act.put, List.setIfInBounds_toArray, List.set_cons_zero, List.set_cons_succ])
      ((refine wpAnyH_take (i := 11) (v := ?_) (by (simp only [List.getElem?_toArray, List.getElem?_cons_succ, List.getElem?_cons_zero]); rfl) (by kernel_rfl) (by kernel_rfl) (by kernel_rfl) (by exact fun _ _ _ h => h) (Or.inl ⟨by (go_simp; try rfl), ?_⟩) (by assumption) ?_); rotate_left; focus (intro wS hSw; (try dsimp only at hSw); go_simp; first | done | with_reducible rfl); try simp only [Act.put, List.setIfInBounds_toArray, List.set_cons_zero, List.set_cons_succ])
      ((refine wpAnyH_take (i := 12) (v := ?_) (by (simp only [List.getElem?_toArray, List.getElem?_cons_succ, List.getElem?_cons_zero]); rfl) (by kernel_rfl) (by kernel_rfl) (by kernel_rfl) (by exact fun _ _ _ h => h) (Or.inl ⟨by (go_simp; try rfl), ?_⟩) (by assumption) ?_); rotate_left; focus (intro wS hSw; (try dsimp only at hSw); go_simp; first | done | with_reducible rfl); try simp only [Act.put, List.setIfInBounds_toArray, List.set_cons_zero, List.set_cons_succ])
      ((refine wpAnyH_ready (rs := [10]) (by kernel_rfl) (by simp) ?_); (refine AllReadyH.cons (by (simp only [List.getElem?_toArray, List.getElem?_cons_succ, List.getElem?_cons_zero]); rfl) (fun K hK => ?_) AllReadyH.nil); go_simp; refine Calls.mono (key_any y _) ?_)
      rintro e W2 ⟨rfl, hB2⟩
      have HX2 := Lib.hid ((show Blk wr.drew N _ _ from HX.out).step hB2)
      have HB2 : Hid (Below w.heap.size w W2) := Lib.hid (HB.out.drew.trans (hB2.mono HB.out.size))
      clear hB2
      go_wp2_with fail
      refine hK.out _ _ ⟨HCL.out _ HB2.out, HXX.out _ HX2.out⟩ (fun hHeld => ?_)
      clear hK K
      try simp only [Act.put, List.setIfInBounds_toArray, List.set_cons_zero, List.set_cons_succ]
      ((refine wpAnyH_ready (rs := [13]) (by kernel_rfl) (by simp) ?_); (refine AllReadyH.cons (by (simp only [List.getElem?_toArray, List.getElem?_cons_succ, List.getElem?_cons_zero]); rfl) (fun K hK => ?_) AllReadyH.nil); go_simp; refine Calls.mono (key_any x _) ?_)
      rintro e W3 ⟨rfl, hB3⟩
      have HX3 := Lib.hid (HX2.out.step hB3)
      have HB3 : Hid (Below w.heap.size w W3) := Lib.hid (HB2.out.trans (hB3.mono HB2.out.size))
      clear hB3
      go_wp2_with fail
      refine hK.out _ _ ⟨HCL.out _ HB3.out, HXX.out _ HX3.out⟩ (fun hHeld => ?_)
      clear hK K
      try simp only [Act.put, List.setIfInBounds_toArray, List.set_cons_zero, List.set_cons_succ]
      ((refine wpAnyH_take (i := 14) (v := ?_) (by (simp only [List.getElem?_toArray, List.getElem?_cons_succ, List.getElem?_cons_zero]); rfl) (by kernel_rfl) (by kernel_rfl) (by kernel_rfl) (by exact fun _ _ _ h => h) (Or.inl ⟨by (go_simp; try rfl), ?_⟩) (by assumption) ?_); rotate_left; focus (intro wS hSw; (try dsimp only at hSw); go_simp; first | done | with_reducible rfl); try simp only [Act.put, List.setIfInBounds_toArray, List.set_cons_zero, List.set_cons_succ])
      ((refine wpAnyH_take (i := 15) (v := ?_) (by (simp only [List.getElem?_toArray, List.getElem?_cons_succ, List.getElem?_cons_zero]); rfl) (by kernel_rfl) (by kernel_rfl) (by kernel_rfl) (by exact fun _ _ _ h => h) (Or.inl ⟨by rfl, ?_⟩) (by assumption) ?_); rotate_left; focus (intro wS hSw; (try dsimp only at hSw); go_simp; first | done | with_reducible rfl); try simp only [Act.put, List.setIfInBounds_toArray, List.set_cons_zero, List.set_cons_succ])
      refine wpAnyH_done (by kernel_rfl) ?_ _
      clear hHeld
      by_cases hc : y.client < x.client
      · go_wp2_with fail
        go_roundw
        case rel =>
          refine ⟨k + 1, by omega, by go_num, fun j hj => ?_, HX3.out, HB3.out⟩
          by_cases hjk : j = k
          · subst hjk; rw [← HY.out]; exact hc
          · exact HLOW.out j (by omega)
        case measure => first | (simp [intOf]; done) | (simp [intOf]; omega)
      · go_wp2_with fail
        have hnk : decide (0 < n - k) = true := by simp; omega
        have hnk2 : 0 < n - k := by omega
        go_upto_region 5 with fail
        refine wp_region_held_drew (S := fun X => (X.cell? ⟨b, o + k * 7, none⟩ = some (.int .i64 y.client) ∧ X.cell? ⟨b, o + k * 7 + 1, none⟩ = some (.int .i64 y.number) ∧ X.cell? ⟨b, o + k * 7 + 2, none⟩ = some (.int .i64 y.e) ∧ X.cell? ⟨b, o + k * 7 + 3, none⟩ = some (.int .i64 y.rate) ∧ X.cell? ⟨b, o + k * 7 + 4, none⟩ = some (.int .i64 y.burst) ∧ X.cell? ⟨b, o + k * 7 + 5, none⟩ = some (.int .i64 y.lease) ∧ X.cell? ⟨b, o + k * 7 + 6, none⟩ = some (.int .i64 y.size) ∧ b < X.heap.size) ∧ X.cell? ⟨N, 0, none⟩ = some (.int .i64 x.client) ∧ X.cell? ⟨N, 1, none⟩ = some (.int .i64 x.number) ∧ X.cell? ⟨N, 2, none⟩ = some (.int .i64 x.e) ∧ X.cell? ⟨N, 3, none⟩ = some (.int .i64 x.rate) ∧ X.cell? ⟨N, 4, none⟩ = some (.int .i64 x.burst) ∧ X.cell? ⟨N, 5, none⟩ = some (.int .i64 x.lease) ∧ X.cell? ⟨N, 6, none⟩ = some (.int .i64 x.size) ∧ N < X.heap.size) (by kernel_rfl) ⟨HCL.out _ HB3.out.drew, HXX.out W3.drew HX3.out⟩ (fun hHeld => ?_)
        ((refine wpAnyH_take (i := 0) (v := ?_) (by (simp only [List.getElem?_toArray, List.getElem?_cons_succ, List.getElem?_cons_zero]); rfl) (by kernel_rfl) (by kernel_rfl) (by kernel_rfl) (by exact fun _ _ _ h => h) (Or.inl ⟨by rfl, ?_⟩) (by assumption) ?_); rotate_left; focus (intro wS hSw; (try dsimp only at hSw); go_simp; first | done | with_reducible rfl); try simp only [Act.put, List.setIfInBounds_toArray, List.set_cons_zero, List.set_cons_succ])
        ((refine wpAnyH_take (i := 1) (v := ?_) (by (simp only [List.getElem?_toArray, List.getElem?_cons_succ, List.getElem?_cons_zero]); rfl) (by kernel_rfl) (by kernel_rfl) (by kernel_rfl) (by exact fun _ _ _ h => h) (Or.inl ⟨by rfl, ?_⟩) (by assumption) ?_); rotate_left; focus (intro wS hSw; (try dsimp only at hSw); go_simp; first | done | with_reducible rfl); try simp only [Act.put, List.setIfInBounds_toArray, List.set_cons_zero, List.set_cons_succ])
        ((refine wpAnyH_take (i := 2) (v := ?_) (by (simp only [List.getElem?_toArray, List.getElem?_cons_succ, List.getElem?_cons_zero]); rfl) (by kernel_rfl) (by kernel_rfl) (by kernel_rfl) (by exact fun _ _ _ h => h) (Or.inl ⟨by rfl, ?_⟩) (by assumption) ?_); rotate_left; focus (intro wS hSw; (try dsimp only at hSw); go_simp; first | done | with_reducible rfl); try simp only [Act.put, List.setIfInBounds_toArray, List.set_cons_zero, List.set_cons_succ])
        ((refine wpAnyH_take (i := 3) (v := ?_) (by (simp only [List.getElem?_toArray, List.getElem?_cons_succ, List.getElem?_cons_zero]); rfl) (by kernel_rfl) (by kernel_rfl) (by kernel_rfl) (by exact fun _ _ _ h => h) (Or.inl ⟨by rfl, ?_⟩) (by assumption) ?_); rotate_left; focus (intro wS hSw; (try dsimp only at hSw); go_simp; first | done | with_reducible rfl); try simp only [Act.put, List.setIfInBounds_toArray, List.set_cons_zero, List.set_cons_succ])
        ((refine wpAnyH_take (i := 4) (v := ?_) (by (simp only [List.getElem?_toArray, List.getElem?_cons_succ, List.getElem?_cons_zero]); rfl) (by kernel_rfl) (by kernel_rfl) (by kernel_rfl) (by exact fun _ _ _ h => h) (Or.inl ⟨by (go_simp; try rfl), ?_⟩) (by assumption) ?_); rotate_left; focus (intro wS hSw; (try dsimp only at hSw); go_simp; first | done | with_reducible rfl); try simp only [Act.put, List.setIfInBounds_toArray, List.set_cons_zero, List.set_cons_succ])
        ((refine wpAnyH_take (i := 5) (v := ?_) (by (simp only [List.getElem?_toArray, List.getElem?_cons_succ, List.getElem?_cons_zero]); rfl) (by kernel_rfl) (by kernel_rfl) (by kernel_rfl) (by exact fun _ _ _ h => h) (Or.inl ⟨by (go_simp; try rfl), ?_⟩) (by assumption) ?_); rotate_left; focus (intro wS hSw; (try dsimp only at hSw); go_simp; first | done | with_reducible rfl); try simp only [Act.put, List.setIfInBounds_toArray, List.set_cons_zero, List.set_cons_succ])
        ((refine wpAnyH_take (i := 6) (v := ?_) (by (simp only [List.getElem?_toArray, List.getElem?_cons_succ, List.getElem?_cons_zero]); rfl) (by kernel_rfl) (by kernel_rfl) (by kernel_rfl) (by exact fun _ _ _ h => h) (Or.inl ⟨by (go_simp; try rfl), ?_⟩) (by assumption) ?_); rotate_left; focus (intro wS hSw; (try dsimp only at hSw); go_simp; first | done | with_reducible rfl); try simp only [Act.put, List.setIfInBounds_toArray, List.set_cons_zero, List.set_cons_succ])
        ((refine wpAnyH_take (i := 7) (v := ?_) (by (simp only [List.getElem?_toArray, List.getElem?_cons_succ, List.getElem?_cons_zero]); rfl) (by kernel_rfl) (by kernel_rfl) (by kernel_rfl) (by exact fun _ _ _ h => h) (Or.inl ⟨by (go_simp; try rfl), ?_⟩) (by assumption) ?_); rotate_left; focus (intro wS hSw; (try dsimp only at hSw); go_simp; first | done | with_reducible rfl); try simp only [Act.put, List.setIfInBounds_toArray, List.set_cons_zero, List.set_cons_succ])
        ((refine wpAnyH_take (i := 9) (v := ?_) (by (simp only [List.getElem?_toArray, List.getElem?_cons_succ, List.getElem?_cons_zero]); rfl) (by kernel_rfl) (by kernel_rfl) (by kernel_rfl) (by exact fun _ _ _ h => h) (Or.inl ⟨by (go_simp; try rfl), ?_⟩) (by assumption) ?_); rotate_left; focus (intro wS hSw; (try dsimp only at hSw); go_simp; first | done | with_reducible rfl); try simp only [Act.put, List.setIfInBounds_toArray, List.set_cons_zero, List.set_cons_succ])
        ((refine wpAnyH_take (i := 10) (v := ?_) (by (simp only [List.getElem?_toArray, List.getElem?_cons_succ, List.getElem?_cons_zero]); rfl) (by kernel_rfl) (by kernel_rfl) (by kernel_rfl) (by exact fun _ _ _ h => h) (Or.inl ⟨by (go_simp; try rfl), ?_⟩) (by assumption) ?_); rotate_left; focus (intro wS hSw; (try dsimp only at hSw); go_simp; first | done | with_reducible rfl); try simp only [Act.put, List.setIfInBounds_toArray, List.set_cons_zero, List.set_cons_succ])
        ((refine wpAnyH_ready (rs := [8]) (by kernel_rfl) (by simp) ?_); (refine AllReadyH.cons (by (simp only [List.getElem?_toArray, List.getElem?_cons_succ, List.getElem?_cons_zero]); rfl) (fun K hK => ?_) AllReadyH.nil); go_simp; refine Calls.mono (key_any y _) ?_)
        rintro e W4 ⟨rfl, hB4⟩
        have HX4 := Lib.hid ((show Blk W3.drew N _ _ from HX3.out).step hB4)
        have HB4 : Hid (Below w.heap.size w W4) := Lib.hid (HB3.out.drew.trans (hB4.mono HB3.out.size))
        clear hB4
        go_wp2_with fail
        refine hK.out _ _ ⟨HCL.out _ HB4.out, HXX.out _ HX4.out⟩ (fun hHeld => ?_)
        clear hK K
        try simp only [Act.put, List.setIfInBounds_toArray, List.set_cons_zero, List.set_cons_succ]
        ((refine wpAnyH_ready (rs := [11]) (by kernel_rfl) (by simp) ?_); (refine AllReadyH.cons (by (simp only [List.getElem?_toArray, List.getElem?_cons_succ, List.getElem?_cons_zero]); rfl) (fun K hK => ?_) AllReadyH.nil); go_simp; refine Calls.mono (key_any x _) ?_)
        rintro e W5 ⟨rfl, hB5⟩
        have HX5 := Lib.hid (HX4.out.step hB5)
        have HB5 : Hid (Below w.heap.size w W5) := Lib.hid (HB4.out.trans (hB5.mono HB4.out.size))
        clear hB5
        go_wp2_with fail
        refine hK.out _ _ ⟨HCL.out _ HB5.out, HXX.out _ HX5.out⟩ (fun hHeld => ?_)
        clear hK K
        try simp only [Act.put, List.setIfInBounds_toArray, List.set_cons_zero, List.set_cons_succ]
        ((refine wpAnyH_take (i := 12) (v := ?_) (by (simp only [List.getElem?_toArray, List.getElem?_cons_succ, List.getElem?_cons_zero]); rfl) (by kernel_rfl) (by kernel_rfl) (by kernel_rfl) (by exact fun _ _ _ h => h) (Or.inl ⟨by (go_simp; try rfl), ?_⟩) (by assumption) ?_); rotate_left; focus (intro wS hSw; (try dsimp only at hSw); go_simp; first | done | with_reducible rfl); try simp only [Act.put, List.setIfInBounds_toArray, List.set_cons_zero, List.set_cons_succ])
        ((refine wpAnyH_take (i := 13) (v := ?_) (by (simp only [List.getElem?_toArray, List.getElem?_cons_succ, List.getElem?_cons_zero]); rfl) (by kernel_rfl) (by kernel_rfl) (by kernel_rfl) (by exact fun _ _ _ h => h) (Or.inl ⟨by rfl, ?_⟩) (by assumption) ?_); rotate_left; focus (intro wS hSw; (try dsimp only at hSw); go_simp; first | done | with_reducible rfl); try simp only [Act.put, List.setIfInBounds_toArray, List.set_cons_zero, List.set_cons_succ])
        refine wpAnyH_done (by kernel_rfl) ?_ _
        clear hHeld
        have hkc : k ≤ cap := by omega
        have HCUT : Hid (k = cutS S x.client n) := Lib.hid (cut_uniq (by omega) HLOW.out (fun _ => by rw [← HY.out]; omega)).symm
        have HP1 : Hid (∀ X, Below w.heap.size w X → PcIn X ⟨some ⟨b, o, none⟩, k, cap, b, o, seL S k⟩) := Lib.hid (fun X hX => by
          have h9 := pc_in (HS.out.below hX) 0 k cap (by omega) (by omega) HS.out.max (some ⟨b, o, none⟩) (fun _ => by simp)
          simpa using h9)
        cases hceq : y.client == x.client
        · have HIF : Hid (0 = dS S n x.client) := Lib.hid (by unfold dS; rw [← HCUT.out, if_neg]; rintro ⟨_, h⟩; rw [← HY.out] at h; simp [h] at hceq)
          have HP3 : Hid (∀ X, Below w.heap.size w X → PcIn X ⟨some ⟨b, o + k * 7, none⟩, n - k, cap - k, b, o + k * 7, seL (fun j => S (k + j)) (n - k)⟩) := Lib.hid (fun X hX => pc_in (HS.out.below hX) k (n - k) (cap - k) (by omega) (by omega) (by unfold maxLen; omega) _ (fun _ => rfl))
          go_upto_region 7 with fail
          refine wp_region_held_drew (S := fun X => X.cell? ⟨N, 0, none⟩ = some (.int .i64 x.client) ∧ X.cell? ⟨N, 1, none⟩ = some (.int .i64 x.number) ∧ X.cell? ⟨N, 2, none⟩ = some (.int .i64 x.e) ∧ X.cell? ⟨N, 3, none⟩ = some (.int .i64 x.rate) ∧ X.cell? ⟨N, 4, none⟩ = some (.int .i64 x.burst) ∧ X.cell? ⟨N, 5, none⟩ = some (.int .i64 x.lease) ∧ X.cell? ⟨N, 6, none⟩ = some (.int .i64 x.size) ∧ N < X.heap.size) (by kernel_rfl) (HXX.out (W5).drew (HX5).out) (fun hHeld => ?_)
          ((refine wpAnyH_take (i := 0) (v := ?_) (by (simp only [List.getElem?_toArray, List.getElem?_cons_succ, List.getElem?_cons_zero]); rfl) (by kernel_rfl) (by kernel_rfl) (by kernel_rfl) (by exact fun _ _ _ h => h) (Or.inl ⟨by rfl, ?_⟩) (by assumption) ?_); rotate_left; focus (intro wS hSw; (try dsimp only at hSw); go_simp; first | done | with_reducible rfl); try simp only [Act.put, List.setIfInBounds_toArray, List.set_cons_zero, List.set_cons_succ])
          ((refine wpAnyH_take (i := 1) (v := ?_) (by (simp only [List.getElem?_toArray, List.getElem?_cons_succ, List.getElem?_cons_zero]); rfl) (by kernel_rfl) (by kernel_rfl) (by kernel_rfl) (by exact fun _ _ _ h => h) (Or.inl ⟨by rfl, ?_⟩) (by assumption) ?_); rotate_left; focus (intro wS hSw; (try dsimp only at hSw); go_simp; first | done | with_reducible rfl); try simp only [Act.put, List.setIfInBounds_toArray, List.set_cons_zero, List.set_cons_succ])
          ((refine wpAnyH_take (i := 2) (v := ?_) (by (simp only [List.getElem?_toArray, List.getElem?_cons_succ, List.getElem?_cons_zero]); rfl) (by kernel_rfl) (by kernel_rfl) (by kernel_rfl) (by exact fun _ _ _ h => h) (Or.inl ⟨by rfl, ?_⟩) (by assumption) ?_); rotate_left; focus (intro wS hSw; (try dsimp only at hSw); go_simp; first | done | with_reducible rfl); try simp only [Act.put, List.setIfInBounds_toArray, List.set_cons_zero, List.set_cons_succ])
          ((refine wpAnyH_take (i := 3) (v := ?_) (by (simp only [List.getElem?_toArray, List.getElem?_cons_succ, List.getElem?_cons_zero]); rfl) (by kernel_rfl) (by kernel_rfl) (by kernel_rfl) (by exact fun _ _ _ h => h) (Or.inl ⟨by rfl, ?_⟩) (by assumption) ?_); rotate_left; focus (intro wS hSw; (try dsimp only at hSw); go_simp; first | done | with_reducible rfl); try simp only [Act.put, List.setIfInBounds_toArray, List.set_cons_zero, List.set_cons_succ])
          ((refine wpAnyH_take (i := 5) (v := ?_) (by (simp only [List.getElem?_toArray, List.getElem?_cons_succ, List.getElem?_cons_zero]); rfl) (by kernel_rfl) (by kernel_rfl) (by kernel_rfl) (by exact fun _ _ _ h => h) (Or.inl ⟨by rfl, ?_⟩) (by assumption) ?_); rotate_left; focus (intro wS hSw; (try dsimp only at hSw); go_simp; first | done | with_reducible rfl); try simp only [Act.put, List.setIfInBounds_toArray, List.set_cons_zero, List.set_cons_succ])
          refine wpAnyH_ready (rs := [4]) (by kernel_rfl) (by simp) ?_
          refine AllReadyH.cons (by (simp only [List.getElem?_toArray, List.getElem?_cons_succ, List.getElem?_cons_zero]); rfl) (fun K hK => ?_) AllReadyH.nil
          go_simp
          obtain ⟨X1, hX1⟩ : ∃ X1, X1 = ((W5).alloc (.cells #[.int .i64 x.client, .int .i64 x.number, .int .i64 x.e, .int .i64 x.rate, .int .i64 x.burst, .int .i64 x.lease, .int .i64 x.size] 113)).drew := ⟨_, rfl⟩
          obtain ⟨M1, hM1⟩ : ∃ M1, M1 = (W5).heap.size := ⟨_, rfl⟩
          have hBX1 : Below (W5).heap.size (W5) X1 := by rw [hX1]; exact ((Below.refl _ _).alloc (Nat.le_refl _) _).drew
          have hx1 : Blk X1 M1 #[.int .i64 x.client, .int .i64 x.number, .int .i64 x.e, .int .i64 x.rate, .int .i64 x.burst, .int .i64 x.lease, .int .i64 x.size] 113 := by rw [hX1, hM1]; exact (blk_new (W5) _ _)
          have HX1a := Lib.hid ((HX5).out.step hBX1)
          rw [← hX1, ← hM1]
          clear hX1 hM1
          refine hK.out _ _ (HXX.out _ HX1a.out) (fun hHeld => ?_)
          clear hK K
          try simp only [Act.put, List.setIfInBounds_toArray, List.set_cons_zero, List.set_cons_succ]
          refine wpAnyH_ready (rs := [6]) (by kernel_rfl) (by simp) ?_
          refine AllReadyH.cons (by (simp only [List.getElem?_toArray, List.getElem?_cons_succ, List.getElem?_cons_zero]); rfl) (fun K hK => ?_) AllReadyH.nil
          go_simp
          obtain ⟨X2, hX2⟩ : ∃ X2, X2 = X1.alloc (.cells #[.slice (some ⟨b, o, none⟩) k cap, .slice (some ⟨M1, 0, none⟩) 1 1, .slice (some ⟨b, o + k * 7, none⟩) (n - k) (cap - k)] 71) := ⟨_, rfl⟩
          obtain ⟨M2, hM2⟩ : ∃ M2, M2 = X1.heap.size := ⟨_, rfl⟩
          have hBX2 : Below X1.heap.size X1 X2 := by rw [hX2]; exact (Below.refl _ _).alloc (Nat.le_refl _) _
          have hx2 : Blk X2 M2 #[.slice (some ⟨b, o, none⟩) k cap, .slice (some ⟨M1, 0, none⟩) 1 1, .slice (some ⟨b, o + k * 7, none⟩) (n - k) (cap - k)] 71 := by rw [hX2, hM2]; exact blk_new _ _ _
          have HX2a := Lib.hid (HX1a.out.step hBX2)
          have hBW : Below w.heap.size w X2 := (((HB5).out.trans (hBX1.mono (HB5).out.size)).trans (hBX2.mono (by have := (HB5).out.size; have := hBX1.size; omega)))
          have HCC := Lib.hid (concat3 M2 M1 _ _ x X2 hx2 (hx1.step hBX2) (HP1.out X2 hBW) (HP3.out X2 hBW) (by simp only; omega))
          have HBW := Lib.hid hBW
          rw [← hX2, ← hM2]
          clear hX2 hM2
          refine hK.out _ _ (HXX.out _ HX2a.out) (fun hHeld => ?_)
          clear hK K hBX1 hBX2 hx1 hx2 hBW
          try simp only [Act.put, List.setIfInBounds_toArray, List.set_cons_zero, List.set_cons_succ]
          ((refine wpAnyH_ready (rs := [7]) (by kernel_rfl) (by simp) ?_); (refine AllReadyH.cons (by (simp only [List.getElem?_toArray, List.getElem?_cons_succ, List.getElem?_cons_zero]); rfl) (fun K hK => ?_) AllReadyH.nil); go_simp; refine Calls.mono HCC.out ?_)
          rintro e W9 ⟨v9, ob9, rfl, hr9, ho9, hB9⟩
          have HX9 := Lib.hid (HX2a.out.step hB9)
          have HR9 := Lib.hid hr9
          have HO9 : Hid (w.heap.size ≤ ob9) := Lib.hid (by have := HBW.out.size; omega)
          have HB9 := Lib.hid (HBW.out.trans (hB9.mono HBW.out.size))
          obtain ⟨av9, cv9, hv9, _, _, h69⟩ := hr9.shape
          have h79 : av9 = some ⟨ob9, 0, none⟩ := h69
          subst hv9 h79
          clear hr9 ho9 hB9 h69
          go_wp2_with fail
          refine hK.out _ _ (HXX.out _ HX9.out) (fun hHeld => ?_)
          clear hK K
          try simp only [Act.put, List.setIfInBounds_toArray, List.set_cons_zero, List.set_cons_succ]
          ((refine wpAnyH_take (i := 8) (v := ?_) (by (simp only [List.getElem?_toArray, List.getElem?_cons_succ, List.getElem?_cons_zero]); rfl) (by kernel_rfl) (by kernel_rfl) (by kernel_rfl) (by exact fun _ _ _ h => h) (Or.inl ⟨by rfl, ?_⟩) (by assumption) ?_); rotate_left; focus (intro wS hSw; (try dsimp only at hSw); go_simp; first | done | with_reducible rfl); try simp only [Act.put, List.setIfInBounds_toArray, List.set_cons_zero, List.set_cons_succ])
          refine wpAnyH_done (by kernel_rfl) ?_ _
          go_wp2_with fail
          go_ret
          refine ⟨_, ob9, k, 0, rfl, HCUT.out, HIF.out, ?_, HO9.out, HB9.out⟩
          have e9 := keepT_row S k 0 x (n - k - 0)
          have h9 := HR9.out
          try simp only at h9
          rw [e9]
          (try rw [show n - k - 0 = (n - k) by omega])
          exact h9
        · have HIF : Hid (1 = dS S n x.client) := Lib.hid (by unfold dS; rw [← HCUT.out, if_pos]; exact ⟨hlt, by rw [← HY.out]; simpa using hceq⟩)
          by_cases hc1 : cap - k = 1
          · have HP3 : Hid (∀ X, Below w.heap.size w X → PcIn X ⟨some ⟨b, o + k * 7, none⟩, n - k - 1, 0, b, o + (k + 1) * 7, seL (fun j => S (k + 1 + j)) (n - k - 1)⟩) := Lib.hid (fun X hX => pc_in (HS.out.below hX) (k + 1) (n - k - 1) 0 (by omega) (by omega) (by unfold maxLen; omega) _ (fun h => by omega))
            go_upto_region 7 with fail
            refine wp_region_held_drew (S := fun X => X.cell? ⟨N, 0, none⟩ = some (.int .i64 x.client) ∧ X.cell? ⟨N, 1, none⟩ = some (.int .i64 x.number) ∧ X.cell? ⟨N, 2, none⟩ = some (.int .i64 x.e) ∧ X.cell? ⟨N, 3, none⟩ = some (.int .i64 x.rate) ∧ X.cell? ⟨N, 4, none⟩ = some (.int .i64 x.burst) ∧ X.cell? ⟨N, 5, none⟩ = some (.int .i64 x.lease) ∧ X.cell? ⟨N, 6, none⟩ = some (.int .i64 x.size) ∧ N < X.heap.size) (by kernel_rfl) (HXX.out (W5).drew (HX5).out) (fun hHeld => ?_)
            ((refine wpAnyH_take (i := 0) (v := ?_) (by (simp only [List.getElem?_toArray, List.getElem?_cons_succ, List.getElem?_cons_zero]); rfl) (by kernel_rfl) (by kernel_rfl) (by kernel_rfl) (by exact fun _ _ _ h => h) (Or.inl ⟨by rfl, ?_⟩) (by assumption) ?_); rotate_left; focus (intro wS hSw; (try dsimp only at hSw); go_simp; first | done | with_reducible rfl); try simp only [Act.put, List.setIfInBounds_toArray, List.set_cons_zero, List.set_cons_succ])
            ((refine wpAnyH_take (i := 1) (v := ?_) (by (simp only [List.getElem?_toArray, List.getElem?_cons_succ, List.getElem?_cons_zero]); rfl) (by kernel_rfl) (by kernel_rfl) (by kernel_rfl) (by exact fun _ _ _ h => h) (Or.inl ⟨by rfl, ?_⟩) (by assumption) ?_); rotate_left; focus (intro wS hSw; (try dsimp only at hSw); go_simp; first | done | with_reducible rfl); try simp only [Act.put, List.setIfInBounds_toArray, List.set_cons_zero, List.set_cons_succ])
            ((refine wpAnyH_take (i := 2) (v := ?_) (by (simp only [List.getElem?_toArray, List.getElem?_cons_succ, List.getElem?_cons_zero]); rfl) (by kernel_rfl) (by kernel_rfl) (by kernel_rfl) (by exact fun _ _ _ h => h) (Or.inl ⟨by rfl, ?_⟩) (by assumption) ?_); rotate_left; focus (intro wS hSw; (try dsimp only at hSw); go_simp; first | done | with_reducible rfl); try simp only [Act.put, List.setIfInBounds_toArray, List.set_cons_zero, List.set_cons_succ])
            ((refine wpAnyH_take (i := 3) (v := ?_) (by (simp only [List.getElem?_toArray, List.getElem?_cons_succ, List.getElem?_cons_zero]); rfl) (by kernel_rfl) (by kernel_rfl) (by kernel_rfl) (by exact fun _ _ _ h => h) (Or.inl ⟨by rfl, ?_⟩) (by assumption) ?_); rotate_left; focus (intro wS hSw; (try dsimp only at hSw); go_simp; first | done | with_reducible rfl); try simp only [Act.put, List.setIfInBounds_toArray, List.set_cons_zero, List.set_cons_succ])
            ((refine wpAnyH_take (i := 5) (v := ?_) (by (simp only [List.getElem?_toArray, List.getElem?_cons_succ, List.getElem?_cons_zero]); rfl) (by kernel_rfl) (by kernel_rfl) (by kernel_rfl) (by exact fun _ _ _ h => h) (Or.inl ⟨by rfl, ?_⟩) (by assumption) ?_); rotate_left; focus (intro wS hSw; (try dsimp only at hSw); go_simp; first | done | with_reducible rfl); try simp only [Act.put, List.setIfInBounds_toArray, List.set_cons_zero, List.set_cons_succ])
            refine wpAnyH_ready (rs := [4]) (by kernel_rfl) (by simp) ?_
            refine AllReadyH.cons (by (simp only [List.getElem?_toArray, List.getElem?_cons_succ, List.getElem?_cons_zero]); rfl) (fun K hK => ?_) AllReadyH.nil
            go_simp
            obtain ⟨X1, hX1⟩ : ∃ X1, X1 = ((W5).alloc (.cells #[.int .i64 x.client, .int .i64 x.number, .int .i64 x.e, .int .i64 x.rate, .int .i64 x.burst, .int .i64 x.lease, .int .i64 x.size] 113)).drew := ⟨_, rfl⟩
            obtain ⟨M1, hM1⟩ : ∃ M1, M1 = (W5).heap.size := ⟨_, rfl⟩
            have hBX1 : Below (W5).heap.size (W5) X1 := by rw [hX1]; exact ((Below.refl _ _).alloc (Nat.le_refl _) _).drew
            have hx1 : Blk X1 M1 #[.int .i64 x.client, .int .i64 x.number, .int .i64 x.e, .int .i64 x.rate, .int .i64 x.burst, .int .i64 x.lease, .int .i64 x.size] 113 := by rw [hX1, hM1]; exact (blk_new (W5) _ _)
            have HX1a := Lib.hid ((HX5).out.step hBX1)
            rw [← hX1, ← hM1]
            clear hX1 hM1
            refine hK.out _ _ (HXX.out _ HX1a.out) (fun hHeld => ?_)
            clear hK K
            try simp only [Act.put, List.setIfInBounds_toArray, List.set_cons_zero, List.set_cons_succ]
            refine wpAnyH_ready (rs := [6]) (by kernel_rfl) (by simp) ?_
            refine AllReadyH.cons (by (simp only [List.getElem?_toArray, List.getElem?_cons_succ, List.getElem?_cons_zero]); rfl) (fun K hK => ?_) AllReadyH.nil
            go_simp
            obtain ⟨X2, hX2⟩ : ∃ X2, X2 = X1.alloc (.cells #[.slice (some ⟨b, o, none⟩) k cap, .slice (some ⟨M1, 0, none⟩) 1 1, .slice (some ⟨b, o + k * 7, none⟩) (n - k - 1) 0] 71) := ⟨_, rfl⟩
            obtain ⟨M2, hM2⟩ : ∃ M2, M2 = X1.heap.size := ⟨_, rfl⟩
            have hBX2 : Below X1.heap.size X1 X2 := by rw [hX2]; exact (Below.refl _ _).alloc (Nat.le_refl _) _
            have hx2 : Blk X2 M2 #[.slice (some ⟨b, o, none⟩) k cap, .slice (some ⟨M1, 0, none⟩) 1 1, .slice (some ⟨b, o + k * 7, none⟩) (n - k - 1) 0] 71 := by rw [hX2, hM2]; exact blk_new _ _ _
            have HX2a := Lib.hid (HX1a.out.step hBX2)
            have hBW : Below w.heap.size w X2 := (((HB5).out.trans (hBX1.mono (HB5).out.size)).trans (hBX2.mono (by have := (HB5).out.size; have := hBX1.size; omega)))
            have HCC := Lib.hid (concat3 M2 M1 _ _ x X2 hx2 (hx1.step hBX2) (HP1.out X2 hBW) (HP3.out X2 hBW) (by simp only; omega))
            have HBW := Lib.hid hBW
            rw [← hX2, ← hM2]
            clear hX2 hM2
            refine hK.out _ _ (HXX.out _ HX2a.out) (fun hHeld => ?_)
            clear hK K hBX1 hBX2 hx1 hx2 hBW
            try simp only [Act.put, List.setIfInBounds_toArray, List.set_cons_zero, List.set_cons_succ]
            ((refine wpAnyH_ready (rs := [7]) (by kernel_rfl) (by simp) ?_); (refine AllReadyH.cons (by (simp only [List.getElem?_toArray, List.getElem?_cons_succ, List.getElem?_cons_zero]); rfl) (fun K hK => ?_) AllReadyH.nil); go_simp; refine Calls.mono HCC.out ?_)
            rintro e W9 ⟨v9, ob9, rfl, hr9, ho9, hB9⟩
            have HX9 := Lib.hid (HX2a.out.step hB9)
            have HR9 := Lib.hid hr9
            have HO9 : Hid (w.heap.size ≤ ob9) := Lib.hid (by have := HBW.out.size; omega)
            have HB9 := Lib.hid (HBW.out.trans (hB9.mono HBW.out.size))
            obtain ⟨av9, cv9, hv9, _, _, h69⟩ := hr9.shape
            have h79 : av9 = some ⟨ob9, 0, none⟩ := h69
            subst hv9 h79
            clear hr9 ho9 hB9 h69
            go_wp2_with fail
            refine hK.out _ _ (HXX.out _ HX9.out) (fun hHeld => ?_)
            clear hK K
            try simp only [Act.put, List.setIfInBounds_toArray, List.set_cons_zero, List.set_cons_succ]
            ((refine wpAnyH_take (i := 8) (v := ?_) (by (simp only [List.getElem?_toArray, List.getElem?_cons_succ, List.getElem?_cons_zero]); rfl) (by kernel_rfl) (by kernel_rfl) (by kernel_rfl) (by exact fun _ _ _ h => h) (Or.inl ⟨by rfl, ?_⟩) (by assumption) ?_); rotate_left; focus (intro wS hSw; (try dsimp only at hSw); go_simp; first | done | with_reducible rfl); try simp only [Act.put, List.setIfInBounds_toArray, List.set_cons_zero, List.set_cons_succ])
            refine wpAnyH_done (by kernel_rfl) ?_ _
            go_wp2_with fail
            go_ret
            refine ⟨_, ob9, k, 1, rfl, HCUT.out, HIF.out, ?_, HO9.out, HB9.out⟩
            have e9 := keepT_row S k 1 x (n - k - 1)
            have h9 := HR9.out
            try simp only at h9
            rw [e9]
            (try rw [show n - k - 1 = (n - k - 1) by omega])
            exact h9
          · have HP3 : Hid (∀ X, Below w.heap.size w X → PcIn X ⟨some ⟨b, o + k * 7 + 7, none⟩, n - k - 1, cap - k - 1, b, o + (k + 1) * 7, seL (fun j => S (k + 1 + j)) (n - k - 1)⟩) := Lib.hid (fun X hX => pc_in (HS.out.below hX) (k + 1) (n - k - 1) (cap - k - 1) (by omega) (by omega) (by unfold maxLen; omega) _ (fun h => by rw [show o + (k + 1) * 7 = o + k * 7 + 7 by omega]))
            go_upto_region 7 with fail
            refine wp_region_held_drew (S := fun X => X.cell? ⟨N, 0, none⟩ = some (.int .i64 x.client) ∧ X.cell? ⟨N, 1, none⟩ = some (.int .i64 x.number) ∧ X.cell? ⟨N, 2, none⟩ = some (.int .i64 x.e) ∧ X.cell? ⟨N, 3, none⟩ = some (.int .i64 x.rate) ∧ X.cell? ⟨N, 4, none⟩ = some (.int .i64 x.burst) ∧ X.cell? ⟨N, 5, none⟩ = some (.int .i64 x.lease) ∧ X.cell? ⟨N, 6, none⟩ = some (.int .i64 x.size) ∧ N < X.heap.size) (by kernel_rfl) (HXX.out (W5).drew (HX5).out) (fun hHeld => ?_)
            ((refine wpAnyH_take (i := 0) (v := ?_) (by (simp only [List.getElem?_toArray, List.getElem?_cons_succ, List.getElem?_cons_zero]); rfl) (by kernel_rfl) (by kernel_rfl) (by kernel_rfl) (by exact fun _ _ _ h => h) (Or.inl ⟨by rfl, ?_⟩) (by assumption) ?_); rotate_left; focus (intro wS hSw; (try dsimp only at hSw); go_simp; first | done | with_reducible rfl); try simp only [Act.put, List.setIfInBounds_toArray, List.set_cons_zero, List.set_cons_succ])
            ((refine wpAnyH_take (i := 1) (v := ?_) (by (simp only [List.getElem?_toArray, List.getElem?_cons_succ, List.getElem?_cons_zero]); rfl) (by kernel_rfl) (by kernel_rfl) (by kernel_rfl) (by exact fun _ _ _ h => h) (Or.inl ⟨by rfl, ?_⟩) (by assumption) ?_); rotate_left; focus (intro wS hSw; (try dsimp only at hSw); go_simp; first | done | with_reducible rfl); try simp only [Act.put, List.setIfInBounds_toArray, List.set_cons_zero, List.set_cons_succ])
            ((refine wpAnyH_take (i := 2) (v := ?_) (by (simp only [List.getElem?_toArray, List.getElem?_cons_succ, List.getElem?_cons_zero]); rfl) (by kernel_rfl) (by kernel_rfl) (by kernel_rfl) (by exact fun _ _ _ h => h) (Or.inl ⟨by rfl, ?_⟩) (by assumption) ?_); rotate_left; focus (intro wS hSw; (try dsimp only at hSw); go_simp; first | done | with_reducible rfl); try simp only [Act.put, List.setIfInBounds_toArray, List.set_cons_zero, List.set_cons_succ])
            ((refine wpAnyH_take (i := 3) (v := ?_) (by (simp only [List.getElem?_toArray, List.getElem?_cons_succ, List.getElem?_cons_zero]); rfl) (by kernel_rfl) (by kernel_rfl) (by kernel_rfl) (by exact fun _ _ _ h => h) (Or.inl ⟨by rfl, ?_⟩) (by assumption) ?_); rotate_left; focus (intro wS hSw; (try dsimp only at hSw); go_simp; first | done | with_reducible rfl); try simp only [Act.put, List.setIfInBounds_toArray, List.set_cons_zero, List.set_cons_succ])
            ((refine wpAnyH_take (i := 5) (v := ?_) (by (simp only [List.getElem?_toArray, List.getElem?_cons_succ, List.getElem?_cons_zero]); rfl) (by kernel_rfl) (by kernel_rfl) (by kernel_rfl) (by exact fun _ _ _ h => h) (Or.inl ⟨by rfl, ?_⟩) (by assumption) ?_); rotate_left; focus (intro wS hSw; (try dsimp only at hSw); go_simp; first | done | with_reducible rfl); try simp only [Act.put, List.setIfInBounds_toArray, List.set_cons_zero, List.set_cons_succ])
            refine wpAnyH_ready (rs := [4]) (by kernel_rfl) (by simp) ?_
            refine AllReadyH.cons (by (simp only [List.getElem?_toArray, List.getElem?_cons_succ, List.getElem?_cons_zero]); rfl) (fun K hK => ?_) AllReadyH.nil
            go_simp
            obtain ⟨X1, hX1⟩ : ∃ X1, X1 = ((W5).alloc (.cells #[.int .i64 x.client, .int .i64 x.number, .int .i64 x.e, .int .i64 x.rate, .int .i64 x.burst, .int .i64 x.lease, .int .i64 x.size] 113)).drew := ⟨_, rfl⟩
            obtain ⟨M1, hM1⟩ : ∃ M1, M1 = (W5).heap.size := ⟨_, rfl⟩
            have hBX1 : Below (W5).heap.size (W5) X1 := by rw [hX1]; exact ((Below.refl _ _).alloc (Nat.le_refl _) _).drew
            have hx1 : Blk X1 M1 #[.int .i64 x.client, .int .i64 x.number, .int .i64 x.e, .int .i64 x.rate, .int .i64 x.burst, .int .i64 x.lease, .int .i64 x.size] 113 := by rw [hX1, hM1]; exact (blk_new (W5) _ _)
            have HX1a := Lib.hid ((HX5).out.step hBX1)
            rw [← hX1, ← hM1]
            clear hX1 hM1
            refine hK.out _ _ (HXX.out _ HX1a.out) (fun hHeld => ?_)
            clear hK K
            try simp only [Act.put, List.setIfInBounds_toArray, List.set_cons_zero, List.set_cons_succ]
            refine wpAnyH_ready (rs := [6]) (by kernel_rfl) (by simp) ?_
            refine AllReadyH.cons (by (simp only [List.getElem?_toArray, List.getElem?_cons_succ, List.getElem?_cons_zero]); rfl) (fun K hK => ?_) AllReadyH.nil
            go_simp
            obtain ⟨X2, hX2⟩ : ∃ X2, X2 = X1.alloc (.cells #[.slice (some ⟨b, o, none⟩) k cap, .slice (some ⟨M1, 0, none⟩) 1 1, .slice (some ⟨b, o + k * 7 + 7, none⟩) (n - k - 1) (cap - k - 1)] 71) := ⟨_, rfl⟩
            obtain ⟨M2, hM2⟩ : ∃ M2, M2 = X1.heap.size := ⟨_, rfl⟩
            have hBX2 : Below X1.heap.size X1 X2 := by rw [hX2]; exact (Below.refl _ _).alloc (Nat.le_refl _) _
            have hx2 : Blk X2 M2 #[.slice (some ⟨b, o, none⟩) k cap, .slice (some ⟨M1, 0, none⟩) 1 1, .slice (some ⟨b, o + k * 7 + 7, none⟩) (n - k - 1) (cap - k - 1)] 71 := by rw [hX2, hM2]; exact blk_new _ _ _
            have HX2a := Lib.hid (HX1a.out.step hBX2)
            have hBW : Below w.heap.size w X2 := (((HB5).out.trans (hBX1.mono (HB5).out.size)).trans (hBX2.mono (by have := (HB5).out.size; have := hBX1.size; omega)))
            have HCC := Lib.hid (concat3 M2 M1 _ _ x X2 hx2 (hx1.step hBX2) (HP1.out X2 hBW) (HP3.out X2 hBW) (by simp only; omega))
            have HBW := Lib.hid hBW
            rw [← hX2, ← hM2]
            clear hX2 hM2
            refine hK.out _ _ (HXX.out _ HX2a.out) (fun hHeld => ?_)
            clear hK K hBX1 hBX2 hx1 hx2 hBW
            try simp only [Act.put, List.setIfInBounds_toArray, List.set_cons_zero, List.set_cons_succ]
            ((refine wpAnyH_ready (rs := [7]) (by kernel_rfl) (by simp) ?_); (refine AllReadyH.cons (by (simp only [List.getElem?_toArray, List.getElem?_cons_succ, List.getElem?_cons_zero]); rfl) (fun K hK => ?_) AllReadyH.nil); go_simp; refine Calls.mono HCC.out ?_)
            rintro e W9 ⟨v9, ob9, rfl, hr9, ho9, hB9⟩
            have HX9 := Lib.hid (HX2a.out.step hB9)
            have HR9 := Lib.hid hr9
            have HO9 : Hid (w.heap.size ≤ ob9) := Lib.hid (by have := HBW.out.size; omega)
            have HB9 := Lib.hid (HBW.out.trans (hB9.mono HBW.out.size))
            obtain ⟨av9, cv9, hv9, _, _, h69⟩ := hr9.shape
            have h79 : av9 = some ⟨ob9, 0, none⟩ := h69
            subst hv9 h79
            clear hr9 ho9 hB9 h69
            go_wp2_with fail
            refine hK.out _ _ (HXX.out _ HX9.out) (fun hHeld => ?_)
            clear hK K
            try simp only [Act.put, List.setIfInBounds_toArray, List.set_cons_zero, List.set_cons_succ]
            ((refine wpAnyH_take (i := 8) (v := ?_) (by (simp only [List.getElem?_toArray, List.getElem?_cons_succ, List.getElem?_cons_zero]); rfl) (by kernel_rfl) (by kernel_rfl) (by kernel_rfl) (by exact fun _ _ _ h => h) (Or.inl ⟨by rfl, ?_⟩) (by assumption) ?_); rotate_left; focus (intro wS hSw; (try dsimp only at hSw); go_simp; first | done | with_reducible rfl); try simp only [Act.put, List.setIfInBounds_toArray, List.set_cons_zero, List.set_cons_succ])
            refine wpAnyH_done (by kernel_rfl) ?_ _
            go_wp2_with fail
            go_ret
            refine ⟨_, ob9, k, 1, rfl, HCUT.out, HIF.out, ?_, HO9.out, HB9.out⟩
            have e9 := keepT_row S k 1 x (n - k - 1)
            have h9 := HR9.out
            try simp only at h9
            rw [e9]
            (try rw [show n - k - 1 = (n - k - 1) by omega])
            exact h9
    · obtain rfl : k = n := by omega
      have hd0 : decide (k < k) = false := by simp
      go_wp2_with fail
      have HCUT : Hid (k = cutS S x.client k) := Lib.hid (cut_uniq (by omega) HLOW.out (fun h => by omega)).symm
      have HIF : Hid (0 = dS S k x.client) := Lib.hid (by unfold dS; rw [← HCUT.out, if_neg]; rintro ⟨h, _⟩; omega)
      have HP1 : Hid (∀ X, Below w.heap.size w X → PcIn X ⟨a, k, cap, b, o, seL S k⟩) := Lib.hid (fun X hX => by
        have h9 := pc_in (HS.out.below hX) 0 k cap (by omega) (by omega) HS.out.max a (fun h => by have := (HS.out.at_ h).1; simpa using this)
        simpa using h9)
      have HXX : Hid (∀ X, Blk X N #[.int .i64 x.client, .int .i64 x.number, .int .i64 x.e, .int .i64 x.rate, .int .i64 x.burst, .int .i64 x.lease, .int .i64 x.size] 113 → X.cell? ⟨N, 0, none⟩ = some (.int .i64 x.client) ∧ X.cell? ⟨N, 1, none⟩ = some (.int .i64 x.number) ∧ X.cell? ⟨N, 2, none⟩ = some (.int .i64 x.e) ∧ X.cell? ⟨N, 3, none⟩ = some (.int .i64 x.rate) ∧ X.cell? ⟨N, 4, none⟩ = some (.int .i64 x.burst) ∧ X.cell? ⟨N, 5, none⟩ = some (.int .i64 x.lease) ∧ X.cell? ⟨N, 6, none⟩ = some (.int .i64 x.size) ∧ N < X.heap.size) := Lib.hid (fun X h => ⟨cell_at h 0, cell_at h 1, cell_at h 2, cell_at h 3, cell_at h 4, cell_at h 5, cell_at h 6, h.lt⟩)
      have hsk : k - k = 0 := by omega
      have haz : ∀ q : Nat, Option.map (fun p : Addr => p.add (0 * q)) a = a := fun q => by cases a <;> simp [Addr.add]
      have haz1 : Option.map (fun p : Addr => p.add 0) a = a := by cases a <;> simp [Addr.add]
      have haz2 : Option.map (fun p : Addr => p) a = a := by cases a <;> simp
      have hmk : cap ≤ maxLen := HS.out.max
      by_cases hcn : cap = k
      · have HP3 : Hid (∀ X, Below w.heap.size w X → PcIn X ⟨a, 0, 0, b, o + k * 7, seL (fun j => S (k + j)) 0⟩) := Lib.hid (fun X hX => pc_in (HS.out.below hX) k 0 0 (by omega) (by omega) (by unfold maxLen; omega) _ (fun h => by omega))
        (refine wp_region_quiet_lit (by kernel_rfl) (by kernel_rfl) ?_; (repeat (first | go_big_quiet_step (fail) | (refine BigFrame.wpQuiet_skip (by rfl) ?_; try simp only [Act.put, List.setIfInBounds_toArray, List.set_cons_zero, List.set_cons_succ]))); refine wpQuiet_nil ?_; intro _ hw9; obtain ⟨nq, hw8⟩ := hw9; subst hw8)
        obtain ⟨WB0, hWB0⟩ : ∃ WB0, WB0 = wr.drewN nq := ⟨_, rfl⟩
        have HXB0 : Hid (Blk WB0 N #[.int .i64 x.client, .int .i64 x.number, .int .i64 x.e, .int .i64 x.rate, .int .i64 x.burst, .int .i64 x.lease, .int .i64 x.size] 113) := Lib.hid (by rw [hWB0]; exact HX.out)
        have HBB0 : Hid (Below w.heap.size w WB0) := Lib.hid (by rw [hWB0]; exact below_dN HB.out _)
        rw [← hWB0]
        clear hWB0
        go_wp2_with fail
        (refine wp_region_quiet_lit (by kernel_rfl) (by kernel_rfl) ?_; (repeat (first | go_big_quiet_step (fail) | (refine BigFrame.wpQuiet_skip (by rfl) ?_; try simp only [Act.put, List.setIfInBounds_toArray, List.set_cons_zero, List.set_cons_succ]))); refine wpQuiet_nil ?_; intro _ hw9; obtain ⟨nq, hw8⟩ := hw9; subst hw8)
        go_upto_region 7 with fail
        obtain ⟨WB, hWB⟩ : ∃ WB, WB = WB0.drewN nq := ⟨_, rfl⟩
        have HXB : Hid (Blk WB N #[.int .i64 x.client, .int .i64 x.number, .int .i64 x.e, .int .i64 x.rate, .int .i64 x.burst, .int .i64 x.lease, .int .i64 x.size] 113) := Lib.hid (by rw [hWB]; exact HXB0.out)
        have HBB : Hid (Below w.heap.size w WB) := Lib.hid (by rw [hWB]; exact below_dN HBB0.out _)
        rw [← hWB]
        clear hWB
        rw [hcn] at HP1
        refine wp_region_held_drew (S := fun X => X.cell? ⟨N, 0, none⟩ = some (.int .i64 x.client) ∧ X.cell? ⟨N, 1, none⟩ = some (.int .i64 x.number) ∧ X.cell? ⟨N, 2, none⟩ = some (.int .i64 x.e) ∧ X.cell? ⟨N, 3, none⟩ = some (.int .i64 x.rate) ∧ X.cell? ⟨N, 4, none⟩ = some (.int .i64 x.burst) ∧ X.cell? ⟨N, 5, none⟩ = some (.int .i64 x.lease) ∧ X.cell? ⟨N, 6, none⟩ = some (.int .i64 x.size) ∧ N < X.heap.size) (by kernel_rfl) (HXX.out (WB).drew (HXB).out) (fun hHeld => ?_)
        ((refine wpAnyH_take (i := 0) (v := ?_) (by (simp only [List.getElem?_toArray, List.getElem?_cons_succ, List.getElem?_cons_zero]); rfl) (by kernel_rfl) (by kernel_rfl) (by kernel_rfl) (by exact fun _ _ _ h => h) (Or.inl ⟨by rfl, ?_⟩) (by assumption) ?_); rotate_left; focus (intro wS hSw; (try dsimp only at hSw); go_simp; first | done | with_reducible rfl); try simp only [Act.put, List.setIfInBounds_toArray, List.set_cons_zero, List.set_cons_succ])
        ((refine wpAnyH_take (i := 1) (v := ?_) (by (simp only [List.getElem?_toArray, List.getElem?_cons_succ, List.getElem?_cons_zero]); rfl) (by kernel_rfl) (by kernel_rfl) (by kernel_rfl) (by exact fun _ _ _ h => h) (Or.inl ⟨by rfl, ?_⟩) (by assumption) ?_); rotate_left; focus (intro wS hSw; (try dsimp only at hSw); go_simp; first | done | with_reducible rfl); try simp only [Act.put, List.setIfInBounds_toArray, List.set_cons_zero, List.set_cons_succ])
        ((refine wpAnyH_take (i := 2) (v := ?_) (by (simp only [List.getElem?_toArray, List.getElem?_cons_succ, List.getElem?_cons_zero]); rfl) (by kernel_rfl) (by kernel_rfl) (by kernel_rfl) (by exact fun _ _ _ h => h) (Or.inl ⟨by rfl, ?_⟩) (by assumption) ?_); rotate_left; focus (intro wS hSw; (try dsimp only at hSw); go_simp; first | done | with_reducible rfl); try simp only [Act.put, List.setIfInBounds_toArray, List.set_cons_zero, List.set_cons_succ])
        ((refine wpAnyH_take (i := 3) (v := ?_) (by (simp only [List.getElem?_toArray, List.getElem?_cons_succ, List.getElem?_cons_zero]); rfl) (by kernel_rfl) (by kernel_rfl) (by kernel_rfl) (by exact fun _ _ _ h => h) (Or.inl ⟨by rfl, ?_⟩) (by assumption) ?_); rotate_left; focus (intro wS hSw; (try dsimp only at hSw); go_simp; first | done | with_reducible rfl); try simp only [Act.put, List.setIfInBounds_toArray, List.set_cons_zero, List.set_cons_succ])
        ((refine wpAnyH_take (i := 5) (v := ?_) (by (simp only [List.getElem?_toArray, List.getElem?_cons_succ, List.getElem?_cons_zero]); rfl) (by kernel_rfl) (by kernel_rfl) (by kernel_rfl) (by exact fun _ _ _ h => h) (Or.inl ⟨by rfl, ?_⟩) (by assumption) ?_); rotate_left; focus (intro wS hSw; (try dsimp only at hSw); go_simp; first | done | with_reducible rfl); try simp only [Act.put, List.setIfInBounds_toArray, List.set_cons_zero, List.set_cons_succ])
        refine wpAnyH_ready (rs := [4]) (by kernel_rfl) (by simp) ?_
        refine AllReadyH.cons (by (simp only [List.getElem?_toArray, List.getElem?_cons_succ, List.getElem?_cons_zero]); rfl) (fun K hK => ?_) AllReadyH.nil
        go_simp
        obtain ⟨X1, hX1⟩ : ∃ X1, X1 = ((WB).alloc (.cells #[.int .i64 x.client, .int .i64 x.number, .int .i64 x.e, .int .i64 x.rate, .int .i64 x.burst, .int .i64 x.lease, .int .i64 x.size] 113)).drew := ⟨_, rfl⟩
        obtain ⟨M1, hM1⟩ : ∃ M1, M1 = (WB).heap.size := ⟨_, rfl⟩
        have hBX1 : Below (WB).heap.size (WB) X1 := by rw [hX1]; exact ((Below.refl _ _).alloc (Nat.le_refl _) _).drew
        have hx1 : Blk X1 M1 #[.int .i64 x.client, .int .i64 x.number, .int .i64 x.e, .int .i64 x.rate, .int .i64 x.burst, .int .i64 x.lease, .int .i64 x.size] 113 := by rw [hX1, hM1]; exact (blk_new (WB) _ _)
        have HX1a := Lib.hid ((HXB).out.step hBX1)
        rw [← hX1, ← hM1]
        clear hX1 hM1
        refine hK.out _ _ (HXX.out _ HX1a.out) (fun hHeld => ?_)
        clear hK K
        try simp only [Act.put, List.setIfInBounds_toArray, List.set_cons_zero, List.set_cons_succ]
        refine wpAnyH_ready (rs := [6]) (by kernel_rfl) (by simp) ?_
        refine AllReadyH.cons (by (simp only [List.getElem?_toArray, List.getElem?_cons_succ, List.getElem?_cons_zero]); rfl) (fun K hK => ?_) AllReadyH.nil
        go_simp
        obtain ⟨X2, hX2⟩ : ∃ X2, X2 = X1.alloc (.cells #[.slice a k k, .slice (some ⟨M1, 0, none⟩) 1 1, .slice a 0 0] 71) := ⟨_, rfl⟩
        obtain ⟨M2, hM2⟩ : ∃ M2, M2 = X1.heap.size := ⟨_, rfl⟩
        have hBX2 : Below X1.heap.size X1 X2 := by rw [hX2]; exact (Below.refl _ _).alloc (Nat.le_refl _) _
        have hx2 : Blk X2 M2 #[.slice a k k, .slice (some ⟨M1, 0, none⟩) 1 1, .slice a 0 0] 71 := by rw [hX2, hM2]; exact blk_new _ _ _
        have HX2a := Lib.hid (HX1a.out.step hBX2)
        have hBW : Below w.heap.size w X2 := (((HBB).out.trans (hBX1.mono (HBB).out.size)).trans (hBX2.mono (by have := (HBB).out.size; have := hBX1.size; omega)))
        have HCC := Lib.hid (concat3 M2 M1 _ _ x X2 hx2 (hx1.step hBX2) (HP1.out X2 hBW) (HP3.out X2 hBW) (by simp only; omega))
        have HBW := Lib.hid hBW
        rw [← hX2, ← hM2]
        clear hX2 hM2
        refine hK.out _ _ (HXX.out _ HX2a.out) (fun hHeld => ?_)
        clear hK K hBX1 hBX2 hx1 hx2 hBW
        try simp only [Act.put, List.setIfInBounds_toArray, List.set_cons_zero, List.set_cons_succ]
        ((refine wpAnyH_ready (rs := [7]) (by kernel_rfl) (by simp) ?_); (refine AllReadyH.cons (by (simp only [List.getElem?_toArray, List.getElem?_cons_succ, List.getElem?_cons_zero]); rfl) (fun K hK => ?_) AllReadyH.nil); go_simp; refine Calls.mono HCC.out ?_)
        rintro e W9 ⟨v9, ob9, rfl, hr9, ho9, hB9⟩
        have HX9 := Lib.hid (HX2a.out.step hB9)
        have HR9 := Lib.hid hr9
        have HO9 : Hid (w.heap.size ≤ ob9) := Lib.hid (by have := HBW.out.size; omega)
        have HB9 := Lib.hid (HBW.out.trans (hB9.mono HBW.out.size))
        obtain ⟨av9, cv9, hv9, _, _, h69⟩ := hr9.shape
        have h79 : av9 = some ⟨ob9, 0, none⟩ := h69
        subst hv9 h79
        clear hr9 ho9 hB9 h69
        go_wp2_with fail
        refine hK.out _ _ (HXX.out _ HX9.out) (fun hHeld => ?_)
        clear hK K
        try simp only [Act.put, List.setIfInBounds_toArray, List.set_cons_zero, List.set_cons_succ]
        ((refine wpAnyH_take (i := 8) (v := ?_) (by (simp only [List.getElem?_toArray, List.getElem?_cons_succ, List.getElem?_cons_zero]); rfl) (by kernel_rfl) (by kernel_rfl) (by kernel_rfl) (by exact fun _ _ _ h => h) (Or.inl ⟨by rfl, ?_⟩) (by assumption) ?_); rotate_left; focus (intro wS hSw; (try dsimp only at hSw); go_simp; first | done | with_reducible rfl); try simp only [Act.put, List.setIfInBounds_toArray, List.set_cons_zero, List.set_cons_succ])
        refine wpAnyH_done (by kernel_rfl) ?_ _
        go_wp2_with fail
        go_ret
        refine ⟨_, ob9, k, 0, rfl, HCUT.out, HIF.out, ?_, HO9.out, HB9.out⟩
        have e9 := keepT_row S k 0 x (k - k - 0)
        have h9 := HR9.out
        try simp only at h9
        rw [e9]
        (try rw [show k - k - 0 = 0 by omega])
        exact h9
      · have HP3 : Hid (∀ X, Below w.heap.size w X → PcIn X ⟨Option.map (fun x => x.add (k * 7)) a, 0, cap - k, b, o + k * 7, seL (fun j => S (k + j)) 0⟩) := Lib.hid (fun X hX => pc_in (HS.out.below hX) k 0 (cap - k) (by omega) (by omega) (by unfold maxLen at hmk ⊢; omega) _ (fun h => by omega))
        (refine wp_region_quiet_lit (by kernel_rfl) (by kernel_rfl) ?_; (repeat (first | go_big_quiet_step (fail) | (refine BigFrame.wpQuiet_skip (by rfl) ?_; try simp only [Act.put, List.setIfInBounds_toArray, List.set_cons_zero, List.set_cons_succ]))); refine wpQuiet_nil ?_; intro _ hw9; obtain ⟨nq, hw8⟩ := hw9; subst hw8)
        obtain ⟨WB0, hWB0⟩ : ∃ WB0, WB0 = wr.drewN nq := ⟨_, rfl⟩
        have HXB0 : Hid (Blk WB0 N #[.int .i64 x.client, .int .i64 x.number, .int .i64 x.e, .int .i64 x.rate, .int .i64 x.burst, .int .i64 x.lease, .int .i64 x.size] 113) := Lib.hid (by rw [hWB0]; exact HX.out)
        have HBB0 : Hid (Below w.heap.size w WB0) := Lib.hid (by rw [hWB0]; exact below_dN HB.out _)
        rw [← hWB0]
        clear hWB0
        go_wp2_with fail
        (refine wp_region_quiet_lit (by kernel_rfl) (by kernel_rfl) ?_; (repeat (first | go_big_quiet_step (fail) | (refine BigFrame.wpQuiet_skip (by rfl) ?_; try simp only [Act.put, List.setIfInBounds_toArray, List.set_cons_zero, List.set_cons_succ]))); refine wpQuiet_nil ?_; intro _ hw9; obtain ⟨nq, hw8⟩ := hw9; subst hw8)
        go_upto_region 7 with fail
        obtain ⟨WB, hWB⟩ : ∃ WB, WB = WB0.drewN nq := ⟨_, rfl⟩
        have HXB : Hid (Blk WB N #[.int .i64 x.client, .int .i64 x.number, .int .i64 x.e, .int .i64 x.rate, .int .i64 x.burst, .int .i64 x.lease, .int .i64 x.size] 113) := Lib.hid (by rw [hWB]; exact HXB0.out)
        have HBB : Hid (Below w.heap.size w WB) := Lib.hid (by rw [hWB]; exact below_dN HBB0.out _)
        rw [← hWB]
        clear hWB
        refine wp_region_held_drew (S := fun X => X.cell? ⟨N, 0, none⟩ = some (.int .i64 x.client) ∧ X.cell? ⟨N, 1, none⟩ = some (.int .i64 x.number) ∧ X.cell? ⟨N, 2, none⟩ = some (.int .i64 x.e) ∧ X.cell? ⟨N, 3, none⟩ = some (.int .i64 x.rate) ∧ X.cell? ⟨N, 4, none⟩ = some (.int .i64 x.burst) ∧ X.cell? ⟨N, 5, none⟩ = some (.int .i64 x.lease) ∧ X.cell? ⟨N, 6, none⟩ = some (.int .i64 x.size) ∧ N < X.heap.size) (by kernel_rfl) (HXX.out (WB).drew (HXB).out) (fun hHeld => ?_)
        ((refine wpAnyH_take (i := 0) (v := ?_) (by (simp only [List.getElem?_toArray, List.getElem?_cons_succ, List.getElem?_cons_zero]); rfl) (by kernel_rfl) (by kernel_rfl) (by kernel_rfl) (by exact fun _ _ _ h => h) (Or.inl ⟨by rfl, ?_⟩) (by assumption) ?_); rotate_left; focus (intro wS hSw; (try dsimp only at hSw); go_simp; first | done | with_reducible rfl); try simp only [Act.put, List.setIfInBounds_toArray, List.set_cons_zero, List.set_cons_succ])
        ((refine wpAnyH_take (i := 1) (v := ?_) (by (simp only [List.getElem?_toArray, List.getElem?_cons_succ, List.getElem?_cons_zero]); rfl) (by kernel_rfl) (by kernel_rfl) (by kernel_rfl) (by exact fun _ _ _ h => h) (Or.inl ⟨by rfl, ?_⟩) (by assumption) ?_); rotate_left; focus (intro wS hSw; (try dsimp only at hSw); go_simp; first | done | with_reducible rfl); try simp only [Act.put, List.setIfInBounds_toArray, List.set_cons_zero, List.set_cons_succ])
        ((refine wpAnyH_take (i := 2) (v := ?_) (by (simp only [List.getElem?_toArray, List.getElem?_cons_succ, List.getElem?_cons_zero]); rfl) (by kernel_rfl) (by kernel_rfl) (by kernel_rfl) (by exact fun _ _ _ h => h) (Or.inl ⟨by rfl, ?_⟩) (by assumption) ?_); rotate_left; focus (intro wS hSw; (try dsimp only at hSw); go_simp; first | done | with_reducible rfl); try simp only [Act.put, List.setIfInBounds_toArray, List.set_cons_zero, List.set_cons_succ])
        ((refine wpAnyH_take (i := 3) (v := ?_) (by (simp only [List.getElem?_toArray, List.getElem?_cons_succ, List.getElem?_cons_zero]); rfl) (by kernel_rfl) (by kernel_rfl) (by kernel_rfl) (by exact fun _ _ _ h => h) (Or.inl ⟨by rfl, ?_⟩) (by assumption) ?_); rotate_left; focus (intro wS hSw; (try dsimp only at hSw); go_simp; first | done | with_reducible rfl); try simp only [Act.put, List.setIfInBounds_toArray, List.set_cons_zero, List.set_cons_succ])
        ((refine wpAnyH_take (i := 5) (v := ?_) (by (simp only [List.getElem?_toArray, List.getElem?_cons_succ, List.getElem?_cons_zero]); rfl) (by kernel_rfl) (by kernel_rfl) (by kernel_rfl) (by exact fun _ _ _ h => h) (Or.inl ⟨by rfl, ?_⟩) (by assumption) ?_); rotate_left; focus (intro wS hSw; (try dsimp only at hSw); go_simp; first | done | with_reducible rfl); try simp only [Act.put, List.setIfInBounds_toArray, List.set_cons_zero, List.set_cons_succ])
        refine wpAnyH_ready (rs := [4]) (by kernel_rfl) (by simp) ?_
        refine AllReadyH.cons (by (simp only [List.getElem?_toArray, List.getElem?_cons_succ, List.getElem?_cons_zero]); rfl) (fun K hK => ?_) AllReadyH.nil
        go_simp
        obtain ⟨X1, hX1⟩ : ∃ X1, X1 = ((WB).alloc (.cells #[.int .i64 x.client, .int .i64 x.number, .int .i64 x.e, .int .i64 x.rate, .int .i64 x.burst, .int .i64 x.lease, .int .i64 x.size] 113)).drew := ⟨_, rfl⟩
        obtain ⟨M1, hM1⟩ : ∃ M1, M1 = (WB).heap.size := ⟨_, rfl⟩
        have hBX1 : Below (WB).heap.size (WB) X1 := by rw [hX1]; exact ((Below.refl _ _).alloc (Nat.le_refl _) _).drew
        have hx1 : Blk X1 M1 #[.int .i64 x.client, .int .i64 x.number, .int .i64 x.e, .int .i64 x.rate, .int .i64 x.burst, .int .i64 x.lease, .int .i64 x.size] 113 := by rw [hX1, hM1]; exact (blk_new (WB) _ _)
        have HX1a := Lib.hid ((HXB).out.step hBX1)
        rw [← hX1, ← hM1]
        clear hX1 hM1
        refine hK.out _ _ (HXX.out _ HX1a.out) (fun hHeld => ?_)
        clear hK K
        try simp only [Act.put, List.setIfInBounds_toArray, List.set_cons_zero, List.set_cons_succ]
        refine wpAnyH_ready (rs := [6]) (by kernel_rfl) (by simp) ?_
        refine AllReadyH.cons (by (simp only [List.getElem?_toArray, List.getElem?_cons_succ, List.getElem?_cons_zero]); rfl) (fun K hK => ?_) AllReadyH.nil
        go_simp
        obtain ⟨X2, hX2⟩ : ∃ X2, X2 = X1.alloc (.cells #[.slice a k cap, .slice (some ⟨M1, 0, none⟩) 1 1, .slice (Option.map (fun x => x.add (k * 7)) a) 0 (cap - k)] 71) := ⟨_, rfl⟩
        obtain ⟨M2, hM2⟩ : ∃ M2, M2 = X1.heap.size := ⟨_, rfl⟩
        have hBX2 : Below X1.heap.size X1 X2 := by rw [hX2]; exact (Below.refl _ _).alloc (Nat.le_refl _) _
        have hx2 : Blk X2 M2 #[.slice a k cap, .slice (some ⟨M1, 0, none⟩) 1 1, .slice (Option.map (fun x => x.add (k * 7)) a) 0 (cap - k)] 71 := by rw [hX2, hM2]; exact blk_new _ _ _
        have HX2a := Lib.hid (HX1a.out.step hBX2)
        have hBW : Below w.heap.size w X2 := (((HBB).out.trans (hBX1.mono (HBB).out.size)).trans (hBX2.mono (by have := (HBB).out.size; have := hBX1.size; omega)))
        have HCC := Lib.hid (concat3 M2 M1 _ _ x X2 hx2 (hx1.step hBX2) (HP1.out X2 hBW) (HP3.out X2 hBW) (by simp only; omega))
        have HBW := Lib.hid hBW
        rw [← hX2, ← hM2]
        clear hX2 hM2
        refine hK.out _ _ (HXX.out _ HX2a.out) (fun hHeld => ?_)
        clear hK K hBX1 hBX2 hx1 hx2 hBW
        try simp only [Act.put, List.setIfInBounds_toArray, List.set_cons_zero, List.set_cons_succ]
        ((refine wpAnyH_ready (rs := [7]) (by kernel_rfl) (by simp) ?_); (refine AllReadyH.cons (by (simp only [List.getElem?_toArray, List.getElem?_cons_succ, List.getElem?_cons_zero]); rfl) (fun K hK => ?_) AllReadyH.nil); go_simp; refine Calls.mono HCC.out ?_)
        rintro e W9 ⟨v9, ob9, rfl, hr9, ho9, hB9⟩
        have HX9 := Lib.hid (HX2a.out.step hB9)
        have HR9 := Lib.hid hr9
        have HO9 : Hid (w.heap.size ≤ ob9) := Lib.hid (by have := HBW.out.size; omega)
        have HB9 := Lib.hid (HBW.out.trans (hB9.mono HBW.out.size))
        obtain ⟨av9, cv9, hv9, _, _, h69⟩ := hr9.shape
        have h79 : av9 = some ⟨ob9, 0, none⟩ := h69
        subst hv9 h79
        clear hr9 ho9 hB9 h69
        go_wp2_with fail
        refine hK.out _ _ (HXX.out _ HX9.out) (fun hHeld => ?_)
        clear hK K
        try simp only [Act.put, List.setIfInBounds_toArray, List.set_cons_zero, List.set_cons_succ]
        ((refine wpAnyH_take (i := 8) (v := ?_) (by (simp only [List.getElem?_toArray, List.getElem?_cons_succ, List.getElem?_cons_zero]); rfl) (by kernel_rfl) (by kernel_rfl) (by kernel_rfl) (by exact fun _ _ _ h => h) (Or.inl ⟨by rfl, ?_⟩) (by assumption) ?_); rotate_left; focus (intro wS hSw; (try dsimp only at hSw); go_simp; first | done | with_reducible rfl); try simp only [Act.put, List.setIfInBounds_toArray, List.set_cons_zero, List.set_cons_succ])
        refine wpAnyH_done (by kernel_rfl) ?_ _
        go_wp2_with fail
        go_ret
        refine ⟨_, ob9, k, 0, rfl, HCUT.out, HIF.out, ?_, HO9.out, HB9.out⟩
        have e9 := keepT_row S k 0 x (k - k - 0)
        have h9 := HR9.out
        try simp only at h9
        rw [e9]
        (try rw [show k - k - 0 = 0 by omega])
        exact h9
end Go.Proofs.Ytnaoajdbopminaa
