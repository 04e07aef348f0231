/-
  Heads; a scheduler's flows gone over: the program.
-/
import Derived.Test.YtnainlemnkfpkaaFa3
import Derived.Lib.AppendZeros
namespace Go.Proofs.Ytnainlemnkfpkaa
open Go.RowKit
set_option linter.unusedSimpArgs false
set_option linter.unusedVariables false

structure HdE where
  size : Int
  weight : Int
def HdE.cells (e : HdE) : List Value := [.int .i64 e.size, .int .i64 e.weight]
def HdE.ok (e : HdE) : Prop := (-9223372036854775808 ≤ e.size ∧ e.size ≤ 9223372036854775807) ∧ (-9223372036854775808 ≤ e.weight ∧ e.weight ≤ 9223372036854775807)
structure HdIn (W : World) (a : Option Addr) (len cap b o : Nat) (E : Nat → HdE) : Prop where
  le : len ≤ cap
  max : cap ≤ maxLen
  at_ : 0 < len → a = some ⟨b, o, none⟩ ∧ b < W.heap.size
  cell : ∀ k, k < len → W.cell? ⟨b, o + k * 2, none⟩ = some (.int .i64 (E k).size) ∧ W.cell? ⟨b, o + k * 2 + 1, none⟩ = some (.int .i64 (E k).weight)
  bd : ∀ k, k < len → (E k).ok
theorem HdIn.below {W W' : World} {a : Option Addr} {len cap b o : Nat} {E : Nat → HdE} (h : HdIn W a len cap b o E) (hB : Below W.heap.size W W') : HdIn W' a len cap b o E :=
  ⟨h.le, h.max, fun hk => ⟨(h.at_ hk).1, by have := (h.at_ hk).2; have := hB.size; omega⟩, fun k hk => by
    have hb := (h.at_ (by omega)).2
    obtain ⟨c0, c1⟩ := h.cell k hk
    exact ⟨(hB.cell (p := ⟨b, _, none⟩) hb).trans c0, (hB.cell (p := ⟨b, _, none⟩) hb).trans c1⟩, h.bd⟩
theorem hd_cells (W : World) {a : Option Addr} {len cap : Nat} {xs : List Dt} (h : SliceFits Try.prog W 67 a len cap xs) : ∃ (b o : Nat) (E : Nat → HdE), HdIn W a len cap b o E := by
  have hc : Try.prog.cellsOf 67 = 2 := by kernel_rfl
  obtain ⟨b, o, h1, h2⟩ := h.spot (by rw [hc]; omega)
  have hex : ∀ k, ∃ q : HdE, k < len → (W.cell? ⟨b, o + k * 2, none⟩ = some (.int .i64 q.size) ∧ W.cell? ⟨b, o + k * 2 + 1, none⟩ = some (.int .i64 q.weight)) ∧ q.ok := fun k => by
    by_cases hk : k < len
    · have hl := h.length
      have hx := List.getElem?_eq_getElem (l := xs) (i := k) (by omega)
      obtain ⟨l0, hxe, hl0, hf0⟩ := (h.each k _ hx).1.agg_inv Try.underlying67
      obtain ⟨y0_0, e0_0, f0_0⟩ := hf0 0 _ rfl
      obtain ⟨y0_1, e0_1, f0_1⟩ := hf0 1 _ rfl
      obtain ⟨v0_0, rfl, gv0_0⟩ := f0_0.int_inv Try.underlying3
      obtain ⟨v0_1, rfl, gv0_1⟩ := f0_1.int_inv Try.underlying3
      match l0, hl0 with
      | [z0_0, z0_1], _ =>
        obtain rfl : z0_0 = _ := by simpa using e0_0
        obtain rfl : z0_1 = _ := by simpa using e0_1
        have hcell := h2 k _ hx
        rw [hxe, hc] at hcell
        exact ⟨⟨v0_0, v0_1⟩, fun _ => ⟨⟨hcell 0 _ rfl, by have := hcell 1 _ rfl; rwa [← Nat.add_assoc] at this⟩, gv0_0, gv0_1⟩⟩
    · exact ⟨⟨0, 0⟩, fun h => absurd h hk⟩
  have hg := fun k => Classical.choose_spec (hex k)
  exact ⟨b, o, fun k => Classical.choose (hex k), h.le, h.max, h1, fun k hk => (hg k hk).1, fun k hk => (hg k hk).2⟩
def hdL (E : Nat → HdE) (n : Nat) : List Value := (List.range n).flatMap fun k => (E k).cells
theorem hdL_succ (E : Nat → HdE) (n : Nat) : hdL E (n + 1) = hdL E n ++ (E n).cells := by simp [hdL, List.range_succ, List.flatMap_append]
theorem hdL_len (E : Nat → HdE) : ∀ n : Nat, (hdL E n).length = n * 2
  | 0 => by simp [hdL]
  | n + 1 => by rw [hdL_succ, List.length_append, hdL_len E n]; simp [HdE.cells]; omega
theorem hdL_congr {E E' : Nat → HdE} : ∀ {n : Nat}, (∀ k, k < n → E k = E' k) → hdL E n = hdL E' n
  | 0, _ => rfl
  | n + 1, h => by rw [hdL_succ, hdL_succ, hdL_congr (fun k hk => h k (by omega)), h n (by omega)]
theorem hdL_at (E : Nat → HdE) : ∀ (n k j : Nat), k < n → j < 2 → (hdL E n)[k * 2 + j]? = (E k).cells[j]?
  | 0, _, _, h, _ => by omega
  | n + 1, k, j, h, hj => by
    have hl := hdL_len E n
    rw [hdL_succ]
    by_cases hk : k < n
    · rw [List.getElem?_append_left (by omega)]
      exact hdL_at E n k j hk hj
    · obtain rfl : k = n := by omega
      rw [List.getElem?_append_right (by omega), hl]
      congr 1
      omega
theorem hd_row {w : World} {v : Value} {ob : Option Nat} {E : Nat → HdE} {n : Nat} (h : Row w v ob 67 2 n (hdL E n)) (hE : ∀ k, k < n → (E k).ok) :
    ∃ a cap, v = .slice a n cap ∧ HdIn w a n cap (ob.getD 0) 0 E := by
  obtain ⟨a, cap, rfl, h1, h2, h3⟩ := h.shape
  refine ⟨a, cap, rfl, h1, h2, fun hk => ?_, fun k hk => ?_, hE⟩
  · obtain ⟨g, hg, _⟩ := h.cell 0 (by omega)
    subst hg
    exact ⟨h3, h.lt⟩
  · have hh : ∀ j, j < 2 → w.cell? ⟨ob.getD 0, 0 + k * 2 + j, none⟩ = (E k).cells[j]? := fun j hj => by
      obtain ⟨g, hg, hc, _⟩ := h.cell (k * 2 + j) (by omega)
      subst hg
      rw [Option.getD_some, Nat.zero_add, hc, hdL_at E n k j hk hj]
    exact ⟨hh 0 (by omega), hh 1 (by omega)⟩

def hsz (E : Nat → HdE) (k : Nat) : Int := (E k).size
def okHd (m : Nat → Int) (n : Nat) : Prop := ∀ k, k < n → 0 ≤ m k ∧ m k ≤ 1500
def badB (m : Int) : Bool := decide (m < 0) || decide (1500 < m)
theorem badB_iff (m : Int) : badB m = false ↔ 0 ≤ m ∧ m ≤ 1500 := by unfold badB; simp
set_option maxRecDepth 100000 in
set_option maxHeartbeats 2000000 in
theorem isNone_any (z wg : Int) (w : World) : Calls Try.prog 24 #[.agg #[.int .i64 z, .int .i64 wg]] w fun e w' => e = .returned (.bool (badB z)) ∧ Below w.heap.size w w' := by
  unfold badB
  by_cases h : z < 0
  · have d1 : decide (z < 0) = true := decide_eq_true h
    go_enter Try.func24, Try.ntmps24
    go_wp2_with fail
    go_ret
    exact ⟨by first | rfl | (rw [d1]; rfl), (Below.refl _ _).alloc (Nat.le_refl _) _⟩
  · have d1 : decide (z < 0) = false := decide_eq_false h
    go_enter Try.func24, Try.ntmps24
    go_wp2_with fail
    go_ret
    exact ⟨by first | rfl | (rw [d1]; rfl), (Below.refl _ _).alloc (Nat.le_refl _) _⟩
set_option maxRecDepth 100000 in
set_option maxHeartbeats 4000000 in
theorem index_any (a : Option Addr) (n cap b o : Nat) (E : Nat → HdE) (w : World) (h : HdIn w a n cap b o E) :
    Calls Try.prog 39 #[.slice a n cap, .func (.func 24) #[] #[]] w fun e w' => ∃ r : Int, e = .returned (.int .i64 r) ∧ Below w.heap.size w w' ∧ ((r = -1 ∧ okHd (hsz E) n) ∨ (0 ≤ r ∧ ¬ okHd (hsz E) n)) := by
  have m1 := h.le
  have m2 := h.max
  unfold maxLen at m2
  have HH := Lib.hid h
  clear h
  go_enter Try.func39, Try.ntmps39
  go_wp2_with fail
  go_loopw [5, 8] (fun _ i wr => ∃ k : Nat, k ≤ n ∧ i = .int .i64 k ∧ okHd (hsz E) k ∧ Below w.heap.size w wr) (fun _ i _ => n - (intOf i).toNat)
  case atStart => exact ⟨0, Nat.zero_le _, rfl, (fun _ h => by omega), Below.refl _ _⟩
  case round =>
    obtain ⟨k, hk, rfl, ho, hB⟩ := hrel
    have HO := Lib.hid ho
    have HB := Lib.hid hB
    by_cases hlt : k < n
    · have ww5 : IntKind.i64.wrap ((k : Int) + 1) = (k : Int) + 1 := IntWalk.i64_in _ (by omega)
      have hx := HH.out.below hB
      obtain ⟨e0, _⟩ := hx.at_ (by omega)
      subst e0
      obtain ⟨c0, c1⟩ := hx.cell k hlt
      obtain ⟨Z, hZ⟩ : ∃ Z, Z = (E k).size := ⟨_, rfl⟩
      obtain ⟨G, hG⟩ : ∃ G, G = (E k).weight := ⟨_, rfl⟩
      rw [← hZ] at c0
      rw [← hG] at c1
      have HZ : Hid (hsz E k = Z) := Lib.hid hZ.symm
      have b9 : ((k : Int) < (n : Int)) = True := eq_true (by omega)
      have bk1 : (k < n) = True := eq_true hlt
      have HLT := Lib.hid hlt
      clear ho hB hx hZ hG hlt
      go_wp2_with fail
      go_at_call 24
      go_fit (isNone_any Z G _)
      rintro e W2 ⟨rfl, hB2⟩
      have HB2 := Lib.hid (HB.out.trans (hB2.mono HB.out.size))
      clear hB2 c0 c1
      cases hb : badB Z
      · have HB9 := Lib.hid hb
        clear hb
        go_wp2_with fail
        go_roundw
        case rel => exact ⟨k + 1, by have := HLT.out; omega, by go_num, (fun j hj => by
          by_cases hjk : j = k
          · subst hjk; rw [HZ.out]; exact (badB_iff Z).1 HB9.out
          · exact HO.out j (by omega)), HB2.out⟩
        case measure => (have h8 := HLT.out; first | (simp [intOf]; done) | (simp [intOf]; omega))
      · have HB9 := Lib.hid hb
        clear hb
        go_wp2_with fail
        try rw [Exit.noGoto_ret]
        go_ret
        exact ⟨_, rfl, HB2.out, .inr ⟨by omega, fun hc => by
          have := (badB_iff Z).2 (by rw [← HZ.out]; exact hc k HLT.out)
          rw [HB9.out] at this
          cases this⟩⟩
    · obtain rfl : k = n := by omega
      clear ho hB
      go_wp2_with fail
      try rw [Exit.noGoto_ret]
      go_ret
      exact ⟨_, rfl, HB.out, .inl ⟨rfl, HO.out⟩⟩
set_option maxRecDepth 100000 in
set_option maxHeartbeats 4000000 in
theorem contains_any (a : Option Addr) (n cap b o : Nat) (E : Nat → HdE) (w : World) (h : HdIn w a n cap b o E) :
    Calls Try.prog 23 #[.slice a n cap, .func (.func 24) #[] #[]] w fun e w' => ∃ B : Bool, e = .returned (.bool B) ∧ Below w.heap.size w w' ∧ ((B = false ∧ okHd (hsz E) n) ∨ (B = true ∧ ¬ okHd (hsz E) n)) := by
  have IX := Lib.hid (index_any a n cap b o E w h)
  clear h
  go_enter Try.func23, Try.ntmps23
  go_wp2_with fail
  go_at_call 39
  go_fit (IX.out)
  rintro e W2 ⟨r, rfl, hB2, hr⟩
  have HB2 := Lib.hid hB2
  have HR := Lib.hid hr
  clear hB2 hr
  go_wp2_with fail
  go_ret
  refine ⟨_, rfl, HB2.out, ?_⟩
  rcases HR.out with ⟨h1, h2⟩ | ⟨h1, h2⟩
  · exact .inl ⟨by simp; omega, h2⟩
  · exact .inr ⟨by simp; omega, h2⟩

/-- rows of bools of the call's own -/
def boL (R : Nat → Bool) (n : Nat) : List Value := (List.range n).map fun k => .bool (R k)
theorem boL_succ (R : Nat → Bool) (n : Nat) : boL R (n + 1) = boL R n ++ [.bool (R n)] := by simp [boL, List.range_succ]
theorem boL_len (R : Nat → Bool) (n : Nat) : (boL R n).length = n := by simp [boL]
theorem boInfo : (Try.prog.info? 4).map (fun i => (i.zero, i.size, i.bytes)) = some (some (.bool false), 1, 1) := by kernel_rfl
theorem bo_grow {W : World} {M b n : Nat} {ty : TypeId} {v : Value} {ob : Option Nat} {R : Nat → Bool} (h : Row W v ob 4 1 n (boL R n)) (hO : ∀ g, ob = some g → M ≤ g) (hb : Blk W b #[.bool (R n)] 4) (hM : M ≤ W.heap.size) (hn : n ≤ 1000000) :
    ∃ v' ob' w', (Builtin.append_ #[41, 41] ty #[v, .slice (some ⟨b, 0, none⟩) 1 1]).run Try.prog W = .ok v' w' ∧ Row w' v' (some ob') 4 1 (n + 1) (boL R (n + 1)) ∧ W.grownBy w' ob ∧ (ob = some ob' ∨ ob' = W.heap.size) ∧ Below M W w' ∧ M ≤ ob' := by
  obtain ⟨i0, hi, hz0, hz1, hz2⟩ := info_parts boInfo
  obtain ⟨v', ob', w', hrun, s1, s2, s3⟩ := run_append_row (P := Try.prog) W 41 ty 4 i0 _ 1 1 Try.underlying41 hi hz0 hz1 hz2 rfl (by decide) v ob n (boL R n) h ⟨b, 0, none⟩ 1 1 [.bool (R n)] (by decide) rfl (fun j u hu => by
    rw [addr_add, cell_at hb]
    have hj : j < 1 := (List.getElem?_eq_some_iff.1 hu).1
    obtain rfl : j = 0 := by omega
    simpa using hu) (fun u hu => List.all_eq_true (p := fun u : Value => u.oneCell') |>.1 rfl u hu) (by unfold maxLen; omega) (by omega)
  refine ⟨v', ob', w', hrun, by rw [boL_succ]; exact s1, s2, s3, (Below.refl M W).grown s2 hM hO, ?_⟩
  rcases s3 with h | h
  · exact hO _ h
  · omega
theorem bools_row {w : World} {v : Value} {ob : Option Nat} {R : Nat → Bool} {n : Nat} (h : Row w v ob 4 1 n (boL R n)) : ∃ a cap, v = .slice a n cap ∧ BoolsIn w a n cap (ob.getD 0) 0 R := by
  obtain ⟨a, cap, rfl, h1, h2, h3⟩ := h.shape
  refine ⟨a, cap, rfl, ⟨h1, h2, fun hk => ?_, fun k hk => ?_⟩⟩
  · obtain ⟨g, hg, _⟩ := h.cell 0 (by omega)
    subst hg
    exact ⟨h3, h.lt⟩
  · obtain ⟨g, hg, hc, _⟩ := h.cell k (by omega)
    subst hg
    rw [Option.getD_some, Nat.zero_add, hc]
    simp [boL, hk]
end Go.Proofs.Ytnainlemnkfpkaa
