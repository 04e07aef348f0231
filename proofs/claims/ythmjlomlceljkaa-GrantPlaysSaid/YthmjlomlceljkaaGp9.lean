/-
  The desk of the program and the document's: what both know; acts that came in; rows held against each other.
-/
import Derived.Test.YthmjlomlceljkaaGp8
namespace Go.Proofs.Ythmjlomlceljkaa
open Go.RowKit
set_option linter.unusedSimpArgs false
set_option linter.unusedVariables false

theorem ga_inv {W : World} {x : Dt} (h : Fits Try.prog W 44 x) : ∃ (v0_0 : Int) (v0_1 : Int) (v0_2 : Int) (av0_3 : Option Addr) (nv0_3 : Nat) (cv0_3 : Nat) (xv0_3 : List Dt), x.cells = [.int .i64 v0_0, .int .i64 v0_1, .int .i64 v0_2, .slice av0_3 nv0_3 cv0_3] ∧ (-9223372036854775808 ≤ v0_0 ∧ v0_0 ≤ 9223372036854775807) ∧ (-9223372036854775808 ≤ v0_1 ∧ v0_1 ≤ 9223372036854775807) ∧ (-9223372036854775808 ≤ v0_2 ∧ v0_2 ≤ 9223372036854775807) ∧ (SliceFits Try.prog W 3 av0_3 nv0_3 cv0_3 xv0_3) := by
  obtain ⟨l0, rfl, hl0, hf0⟩ := h.agg_inv Try.underlying44
  obtain ⟨y0_0, e0_0, f0_0⟩ := hf0 0 _ rfl
  obtain ⟨y0_1, e0_1, f0_1⟩ := hf0 1 _ rfl
  obtain ⟨y0_2, e0_2, f0_2⟩ := hf0 2 _ rfl
  obtain ⟨y0_3, e0_3, f0_3⟩ := hf0 3 _ rfl
  obtain ⟨v0_0, rfl, gv0_0⟩ := f0_0.int_inv Try.underlying3
  obtain ⟨v0_1, rfl, gv0_1⟩ := f0_1.int_inv Try.underlying3
  obtain ⟨v0_2, rfl, gv0_2⟩ := f0_2.int_inv Try.underlying3
  obtain ⟨av0_3, nv0_3, cv0_3, xv0_3, rfl, gv0_3⟩ := f0_3.slice_inv Try.underlying33
  match l0, hl0 with
  | [z0_0, z0_1, z0_2, z0_3], _ =>
    obtain rfl : z0_0 = _ := by simpa using e0_0
    obtain rfl : z0_1 = _ := by simpa using e0_1
    obtain rfl : z0_2 = _ := by simpa using e0_2
    obtain rfl : z0_3 = _ := by simpa using e0_3
    exact ⟨v0_0, v0_1, v0_2, av0_3, nv0_3, cv0_3, xv0_3, rfl, gv0_0, gv0_1, gv0_2, gv0_3⟩

def lk (x : Int) : List Int → List Int → Option Int
  | l :: Ls, t :: Ts => if l = x then some t else lk x Ls Ts
  | _, _ => none
theorem fnd_shift (x : Int) : ∀ (L : List Int) (k : Nat), fnd x k L = if fnd x 0 L < 0 then -1 else (k : Int) + fnd x 0 L
  | [], k => by simp [fnd]
  | y :: l, k => by
    unfold fnd
    by_cases h : y = x
    · simp [h]
    · rw [if_neg h, if_neg h, fnd_shift x l (k + 1), fnd_shift x l (0 + 1)]
      rcases fnd_lt x l 0 with e | ⟨e, _⟩
      · rw [e]; simp
      · have h1 : ¬ fnd x 0 l < 0 := by omega
        simp only [if_neg h1]
        split <;> omega
theorem lk_fnd (x : Int) : ∀ (Ls Ts : List Int), Ls.length = Ts.length → lk x Ls Ts = if fnd x 0 Ls < 0 then none else some (gI Ts (fnd x 0 Ls).toNat)
  | [], [], _ => by simp [lk, fnd]
  | [], t :: Ts, h => by simp at h
  | l :: Ls, [], h => by simp at h
  | l :: Ls, t :: Ts, h => by
    unfold lk fnd
    by_cases hx : l = x
    · simp [hx, gI]
    · rw [if_neg hx, if_neg hx, lk_fnd x Ls Ts (by simpa using h), fnd_shift x Ls (0 + 1)]
      rcases fnd_lt x Ls 0 with e | ⟨e, _⟩
      · rw [e]; simp
      · have h1 : ¬ fnd x 0 Ls < 0 := by omega
        rw [if_neg h1, if_neg h1, if_neg (by omega)]
        have h2 : (((0 + 1 : Nat) : Int) + fnd x 0 Ls).toNat = (fnd x 0 Ls).toNat + 1 := by omega
        rw [h2]
        simp [gI]
theorem lk_append (x l t : Int) : ∀ (Ls Ts : List Int), Ls.length = Ts.length → lk x (Ls ++ [l]) (Ts ++ [t]) = (lk x Ls Ts).or (if l = x then some t else none)
  | [], [], _ => by simp [lk]
  | [], t :: Ts, h => by simp at h
  | l :: Ls, [], h => by simp at h
  | a :: Ls, b :: Ts, h => by
    simp only [List.cons_append, lk]
    by_cases hx : a = x
    · simp [hx]
    · rw [if_neg hx, if_neg hx, lk_append x l t Ls Ts (by simpa using h)]
theorem lk_out (x : Int) : ∀ (Ls Ts : List Int), x ∉ Ls → lk x Ls Ts = none
  | [], _, _ => by simp [lk]
  | _ :: _, [], _ => by simp [lk]
  | a :: Ls, b :: Ts, h => by
    simp only [List.mem_cons, not_or] at h
    simp only [lk, if_neg (fun e => h.1 (Eq.symm e))]
    exact lk_out x Ls Ts h.2
theorem lk_erase (x y : Int) : ∀ (Ls Ts : List Int) (k : Nat), Ls.length = Ts.length → Ls[k]? = some x → Ls.Nodup → lk y (Ls.eraseIdx k) (Ts.eraseIdx k) = if y = x then none else lk y Ls Ts
  | [], _, k, _, h, _ => by simp at h
  | a :: Ls, [], k, h, _, _ => by simp at h
  | a :: Ls, b :: Ts, 0, h, hk, hn => by
    simp only [List.nodup_cons] at hn
    simp at hk
    subst hk
    simp only [List.eraseIdx_cons_zero, lk]
    by_cases hy : y = a
    · rw [if_pos hy, hy, lk_out a Ls Ts hn.1]
    · rw [if_neg hy, if_neg (fun e => hy (Eq.symm e))]
  | a :: Ls, b :: Ts, k + 1, h, hk, hn => by
    simp only [List.nodup_cons] at hn
    simp only [List.getElem?_cons_succ] at hk
    have ih := lk_erase x y Ls Ts k (by simpa using h) hk hn.2
    have hax : a ≠ x := fun e => hn.1 (e ▸ List.mem_of_getElem? hk)
    simp only [List.eraseIdx_cons_succ, lk]
    by_cases hy : a = y
    · rw [if_pos hy, if_neg (fun e => hax (hy.trans e))]
      simp [hy]
    · rw [if_neg hy, if_neg hy]
      exact ih
theorem fnd_at (x : Int) (L : List Int) (h : ¬ fnd x 0 L < 0) : L[(fnd x 0 L).toNat]? = some x := by
  induction L with
  | nil => simp [fnd] at h
  | cons y l ih =>
    unfold fnd at h ⊢
    by_cases hx : y = x
    · simp [hx]
    · rw [if_neg hx] at h ⊢
      rw [fnd_shift x l (0 + 1)] at h ⊢
      rcases fnd_lt x l 0 with e | ⟨e, _⟩
      · rw [e] at h; simp at h
      · have h1 : ¬ fnd x 0 l < 0 := by omega
        rw [if_neg h1]
        have h2 : (((0 + 1 : Nat) : Int) + fnd x 0 l).toNat = (fnd x 0 l).toNat + 1 := by omega
        rw [h2, List.getElem?_cons_succ]
        exact ih h1
theorem fnd_out (x : Int) (L : List Int) (h : fnd x 0 L < 0) : x ∉ L := by
  induction L with
  | nil => simp
  | cons y l ih =>
    unfold fnd at h
    by_cases hx : y = x
    · rw [if_pos hx] at h; simp at h
    · rw [if_neg hx, fnd_shift x l (0 + 1)] at h
      simp only [List.mem_cons, not_or]
      refine ⟨fun e => hx e.symm, ih ?_⟩
      rcases fnd_lt x l 0 with e | ⟨e, _⟩
      · omega
      · rw [if_neg (by omega)] at h; omega
theorem wo_take (k : Nat) (L : List Int) : ∀ n : Nat, n ≤ L.length → wo k L n = (L.take n).eraseIdx k
  | 0, _ => by simp [wo]
  | n + 1, h => by
    rw [wo_succ, wo_take k L n (by omega), List.take_add_one, gI_lt (by omega)]
    simp only [Option.toList_some]
    have hl : (L.take n).length = n := by rw [List.length_take]; omega
    by_cases hk : n = k
    · subst hk
      rw [if_pos rfl, List.eraseIdx_append_of_length_le (by omega), hl, Nat.sub_self]
      rw [List.eraseIdx_of_length_le (by omega)]
      simp
    · rw [if_neg hk]
      by_cases h2 : n < k
      · rw [List.eraseIdx_of_length_le (by omega), List.eraseIdx_of_length_le (by rw [List.length_append, hl]; simp; omega)]
      · rw [List.eraseIdx_append_of_lt_length (by omega)]
theorem wo_all (k : Nat) (L : List Int) (n : Nat) (h : n = L.length) : wo k L n = L.eraseIdx k := by rw [wo_take k L n (by omega), h, List.take_length]
/-- both desks know the same -/
structure Rel (M : Int → Option Int) (Ls Ts : List Int) : Prop where
  len : Ls.length = Ts.length
  nd : Ls.Nodup
  ge : ∀ t ∈ Ts, 0 ≤ t
  lk : ∀ x, M x = lk x Ls Ts
theorem rel_nil : Rel (fun _ => none) [] [] := ⟨rfl, List.nodup_nil, by simp, fun _ => rfl⟩
theorem rel_made {M : Int → Option Int} {Ls Ts : List Int} (h : Rel M Ls Ts) (el lease t : Int) (h0 : 0 ≤ el) (h1 : 1 ≤ lease) (h2 : el ≤ t) : Rel (madeM M lease t) (mdL el lease t Ls) (mdT el lease t Ls Ts) := by
  have hc : ¬ (lease < 1 ∨ t < el) := by omega
  have hm := h.lk lease
  rw [lk_fnd lease Ls Ts h.len] at hm
  unfold mdL mdT
  rw [if_neg hc, if_neg hc]
  by_cases hf : fnd lease 0 Ls < 0
  · rw [if_pos hf] at hm ⊢
    rw [if_pos hf]
    have ho := fnd_out _ _ hf
    refine ⟨by simp [h.len], ?_, fun z hz => ?_, fun x => ?_⟩
    · rw [List.nodup_append]; exact ⟨h.nd, by simp, fun a ha b hb => by simp at hb; subst hb; exact fun e => ho (e ▸ ha)⟩
    · rcases List.mem_append.1 hz with h9 | h9
      · exact h.ge z h9
      · simp at h9; omega
    · rw [lk_append x lease t Ls Ts h.len]
      unfold madeM
      rw [hm]
      by_cases hx : x = lease
      · subst hx; rw [if_pos rfl, lk_out x Ls Ts ho]; simp
      · rw [if_neg hx, if_neg (fun e => hx (Eq.symm e)), ← h.lk x]; simp
  · rw [if_neg hf] at hm ⊢
    rw [if_neg hf]
    refine ⟨h.len, h.nd, h.ge, fun x => ?_⟩
    rw [← h.lk x]
    unfold madeM
    rw [hm]
    by_cases hx : x = lease
    · subst hx; simp [hm]
    · rw [if_neg hx]
theorem rel_gone1 {M : Int → Option Int} {Ls Ts : List Int} (h : Rel M Ls Ts) (x : Int) : Rel (fun y => if y = x then none else M y) (gnS x (Ls, Ts)).1 (gnS x (Ls, Ts)).2 := by
  unfold gnS
  by_cases hf : fnd x 0 Ls < 0
  · rw [if_pos hf]
    refine ⟨h.len, h.nd, h.ge, fun y => ?_⟩
    by_cases hy : y = x
    · rw [if_pos hy, hy, lk_out x Ls Ts (fnd_out _ _ hf)]
    · rw [if_neg hy]; exact h.lk y
  · rw [if_neg hf]
    dsimp only
    rw [wo_all _ Ls _ rfl, wo_all _ Ts _ h.len]
    refine ⟨by rw [List.length_eraseIdx, List.length_eraseIdx, h.len], h.nd.sublist (List.eraseIdx_sublist _ _), fun z hz => h.ge z (List.mem_of_mem_eraseIdx hz), fun y => ?_⟩
    rw [lk_erase x y Ls Ts _ h.len (fnd_at x Ls hf) h.nd]
    by_cases hy : y = x
    · rw [if_pos hy, if_pos hy]
    · rw [if_neg hy, if_neg hy]; exact h.lk y
theorem rel_gone : ∀ (Xs : List Int) {M : Int → Option Int} {p : List Int × List Int}, Rel M p.1 p.2 → Rel (goneM Xs M) (gnL Xs p).1 (gnL Xs p).2
  | [], M, p, h => by
    have : goneM [] M = M := by funext x; simp [goneM]
    rw [this]; exact h
  | x :: Xs, M, p, h => by
    have e : goneM (x :: Xs) M = goneM Xs (fun y => if y = x then none else M y) := by
      funext y
      unfold goneM
      by_cases h1 : y ∈ Xs
      · simp [h1]
      · by_cases h2 : y = x
        · simp [h2]
        · simp [h1, h2]
    rw [e]
    exact rel_gone Xs (rel_gone1 h x)
theorem rel_over {M : Int → Option Int} {Ls Ts : List Int} (h : Rel M Ls Ts) (el now la : Int) : overB el now la M = rOvB el now la Ls Ts := by
  funext id
  unfold overB rOvB
  rw [h.lk id, lk_fnd id Ls Ts h.len]
  split <;> rfl
/-- an act -/
structure GaE where
  kind : Int
  lease : Int
  now : Int
  v : Value
  xs : List Int
structure GaIn (W : World) (a : Option Addr) (len cap b o : Nat) (A : Nat → GaE) : Prop where
  le : len ≤ cap
  max : cap ≤ maxLen
  at_ : 0 < len → a = some ⟨b, o, none⟩ ∧ b < W.heap.size
  cell : ∀ k, k < len → W.cell? ⟨b, o + k * 4, none⟩ = some (.int .i64 (A k).kind) ∧ W.cell? ⟨b, o + k * 4 + 1, none⟩ = some (.int .i64 (A k).lease) ∧ W.cell? ⟨b, o + k * 4 + 2, none⟩ = some (.int .i64 (A k).now) ∧ W.cell? ⟨b, o + k * 4 + 3, none⟩ = some (A k).v
  bd : ∀ k, k < len → (-9223372036854775808 ≤ (A k).lease ∧ (A k).lease ≤ 9223372036854775807) ∧ (-9223372036854775808 ≤ (A k).now ∧ (A k).now ≤ 9223372036854775807)
  ld : ∀ k, k < len → InV W (A k).v (A k).xs
theorem GaIn.below {W W' : World} {a : Option Addr} {len cap b o : Nat} {A : Nat → GaE} (h : GaIn W a len cap b o A) (hB : Below W.heap.size W W') : GaIn W' a len cap b o A :=
  ⟨h.le, h.max, fun hk => ⟨(h.at_ hk).1, by have := (h.at_ hk).2; have := hB.size; omega⟩, fun k hk => by
    have hb := (h.at_ (by omega)).2
    obtain ⟨c0, c1, c2, c3⟩ := h.cell k hk
    exact ⟨(hB.cell (p := ⟨b, _, none⟩) hb).trans c0, (hB.cell (p := ⟨b, _, none⟩) hb).trans c1, (hB.cell (p := ⟨b, _, none⟩) hb).trans c2, (hB.cell (p := ⟨b, _, none⟩) hb).trans c3⟩, h.bd, fun k hk => (h.ld k hk).below hB⟩
set_option maxRecDepth 100000 in
set_option maxHeartbeats 1000000 in
theorem ga_cells (W : World) {a : Option Addr} {len cap : Nat} {xs : List Dt} (h : SliceFits Try.prog W 44 a len cap xs) : ∃ (b o : Nat) (A : Nat → GaE), GaIn W a len cap b o A := by
  have hc : Try.prog.cellsOf 44 = 4 := by kernel_rfl
  obtain ⟨b, o, h1, h2⟩ := h.spot (by rw [hc]; omega)
  have hex : ∀ k, ∃ q : GaE, k < len → (W.cell? ⟨b, o + k * 4, none⟩ = some (.int .i64 q.kind) ∧ W.cell? ⟨b, o + k * 4 + 1, none⟩ = some (.int .i64 q.lease) ∧ W.cell? ⟨b, o + k * 4 + 2, none⟩ = some (.int .i64 q.now) ∧ W.cell? ⟨b, o + k * 4 + 3, none⟩ = some q.v) ∧ ((-9223372036854775808 ≤ q.lease ∧ q.lease ≤ 9223372036854775807) ∧ (-9223372036854775808 ≤ q.now ∧ q.now ≤ 9223372036854775807)) ∧ InV W q.v q.xs := fun k => by
    by_cases hk : k < len
    · have hl := h.length
      have hx := List.getElem?_eq_getElem (l := xs) (i := k) (by omega)
      obtain ⟨v0, v1, v2, a3, n3, c3, ys, hcs, _, g1, g2, g3⟩ := ga_inv (h.each k _ hx).1
      obtain ⟨L, hL, hV⟩ := inv_cells W g3
      have hcell := h2 k _ hx
      rw [hcs, hc] at hcell
      exact ⟨⟨v0, v1, v2, .slice a3 n3 c3, L⟩, fun _ => ⟨⟨hcell 0 _ rfl, by have := hcell 1 _ rfl; rwa [← Nat.add_assoc] at this, by have := hcell 2 _ rfl; rwa [← Nat.add_assoc] at this, by have := hcell 3 _ rfl; rwa [← Nat.add_assoc] at this⟩, ⟨g1, g2⟩, hV⟩⟩
    · exact ⟨⟨0, 0, 0, .slice none 0 0, []⟩, fun h => absurd h hk⟩
  have hg := fun k => Classical.choose_spec (hex k)
  exact ⟨b, o, fun k => Classical.choose (hex k), h.le, h.max, h1, fun k hk => (hg k hk).1, fun k hk => (hg k hk).2.1, fun k hk => (hg k hk).2.2⟩

/-- a world's first blocks -/
def cutW (w : World) (M : Nat) : World := { w with heap := w.heap.extract 0 M }
theorem cutW_size {w : World} {M : Nat} (h : M ≤ w.heap.size) : (cutW w M).heap.size = M := by simp [cutW]; omega
theorem cutW_at (w : World) {M k : Nat} (hk : k < M) : (cutW w M).heap[k]? = w.heap[k]? := by
  show (w.heap.extract 0 M)[k]? = _
  rw [Array.getElem?_extract]
  by_cases h : k < w.heap.size
  · rw [if_pos (by omega), Nat.zero_add]
  · rw [if_neg (by omega), Array.getElem?_eq_none (by omega)]
theorem cutW_below {w : World} {M : Nat} (h : M ≤ w.heap.size) : Below M (cutW w M) w := ⟨rfl, rfl, rfl, by rw [cutW_size h]; exact h, fun k hk => (cutW_at w hk).symm⟩
theorem Below.cutW {w w' : World} {B M : Nat} (h : Below B w w') (hB : B ≤ M) (hM : M ≤ w'.heap.size) (hw : w.heap.size ≤ M) : Below B w (cutW w' M) := ⟨h.os, h.tape, h.output, by rw [cutW_size hM]; exact hw, fun k hk => (cutW_at w' (by omega)).trans (h.block k hk)⟩
set_option maxRecDepth 100000 in
set_option maxHeartbeats 2000000 in
theorem grow_any (va vb : Value) (L : List Int) (w : World) (ha : InV w va L) (hb : InV w vb L) :
    Calls Try.prog 17 #[va, vb] w fun e w' => e = .returned (.bool true) ∧ Below w.heap.size w w' := by
  obtain ⟨xa, n, xc, rfl, HN, m1, m2⟩ := ha.sh
  obtain ⟨ya, n', yc, rfl, HN', m3, m4⟩ := hb.sh
  obtain rfl : n = n' := HN.out.trans HN'.out.symm
  have HA := Lib.hid ha
  have HB := Lib.hid hb
  clear ha hb HN'
  go_enter Try.func17, Try.ntmps17
  go_wp2_with fail
  go_loopw [5, 13] (fun _ i wr => ∃ k : Nat, k ≤ n ∧ i = .int .i64 k ∧ Below w.heap.size w wr) (fun _ i _ => n - (intOf i).toNat)
  case atStart => exact ⟨0, Nat.zero_le _, rfl, Below.refl _ _⟩
  case round =>
    obtain ⟨k, hk, rfl, hB⟩ := hrel
    have HW := Lib.hid hB
    by_cases hlt : k < n
    · obtain ⟨g1, o1, y1, ea1, l1, hy1, c1⟩ := (HA.out.below hB).at k hlt
      obtain ⟨g2, o2, y2, ea2, l2, hy2, c2⟩ := (HB.out.below hB).at k hlt
      obtain rfl := Option.some.inj (hy1.symm.trans hy2)
      subst ea1 ea2
      replace c1 := c1.1
      replace c2 := c2.1
      have ww5 : IntKind.i64.wrap ((k : Int) + 1) = (k : Int) + 1 := IntWalk.i64_in _ (by omega)
      have b9 : ((k : Int) < (n : Int)) = True := eq_true (by omega)
      have bk1 : (k < n) = True := eq_true hlt
      have b0 : (0 ≤ (k : Int)) = True := eq_true (by omega)
      have HLT := Lib.hid hlt
      clear hy1 hy2 hlt hB
      go_wp2_with fail
      (refine wp_region_quiet_lit (by kernel_rfl) (by kernel_rfl) ?_; (repeat (first | go_big_quiet_step (fail) | (refine BigFrame.wpQuiet_skip (by rfl) ?_; try simp only [Act.put, List.setIfInBounds_toArray, List.set_cons_zero, List.set_cons_succ]))); refine wpQuiet_nil ?_; intro _ hw9; obtain ⟨nq, hw8⟩ := hw9; subst hw8)
      obtain ⟨W4, hW4⟩ : ∃ X, X = wr.drewN nq := ⟨_, rfl⟩
      rw [← hW4]
      have hB4 : Below wr.heap.size wr W4 := by rw [hW4]; exact dN _ _
      have HW4 := Lib.hid (HW.out.trans (hB4.mono HW.out.size))
      clear hW4 hB4 c1 c2
      go_wp2_with fail
      go_roundw
      case rel => exact ⟨k + 1, by have := HLT.out; omega, by go_num, HW4.out⟩
      case measure => (have h8 := HLT.out; first | (simp [intOf]; done) | (simp [intOf]; omega))
    · obtain rfl : k = n := by omega
      clear hB
      go_wp2_with fail
      try rw [Exit.noGoto_ret]
      go_ret
      exact ⟨rfl, HW.out⟩
end Go.Proofs.Ythmjlomlceljkaa
