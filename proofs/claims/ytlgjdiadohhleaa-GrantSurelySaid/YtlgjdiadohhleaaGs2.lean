/-
  GrantSurely: one round's pieces.
-/
import Derived.Test.YtlgjdiadohhleaaGs1
import Derived.Test.YtlgjdiadohhleaaGr5
namespace Go.Proofs.Ytlgjdiadohhleaa
open Go.RowKit
set_option linter.unusedSimpArgs false
set_option linter.unusedVariables false

structure SuE where
  ticks : Int
  leader : Int
  shaper : Int
def SuE.cells (e : SuE) : List Value := [.int .i64 e.ticks, .int .i64 e.leader, .int .i64 e.shaper]
def SuE.ok (e : SuE) : Prop := (-9223372036854775808 ≤ e.ticks ∧ e.ticks ≤ 9223372036854775807) ∧ (-9223372036854775808 ≤ e.leader ∧ e.leader ≤ 9223372036854775807) ∧ (-9223372036854775808 ≤ e.shaper ∧ e.shaper ≤ 9223372036854775807)
structure SuIn (W : World) (a : Option Addr) (len cap b o : Nat) (E : Nat → SuE) : Prop where
  le : len ≤ cap
  max : cap ≤ maxLen
  at_ : 0 < len → a = some ⟨b, o, none⟩ ∧ b < W.heap.size
  cell : ∀ k, k < len → W.cell? ⟨b, o + k * 3, none⟩ = some (.int .i64 (E k).ticks) ∧ W.cell? ⟨b, o + k * 3 + 1, none⟩ = some (.int .i64 (E k).leader) ∧ W.cell? ⟨b, o + k * 3 + 2, none⟩ = some (.int .i64 (E k).shaper)
  bd : ∀ k, k < len → (E k).ok
theorem SuIn.below {W W' : World} {a : Option Addr} {len cap b o : Nat} {E : Nat → SuE} (h : SuIn W a len cap b o E) (hB : Below W.heap.size W W') : SuIn W' a len cap b o E :=
  ⟨h.le, h.max, fun hk => ⟨(h.at_ hk).1, by have := (h.at_ hk).2; have := hB.size; omega⟩, fun k hk => by
    have hb := (h.at_ (by omega)).2
    obtain ⟨c0, c1, c2⟩ := h.cell k hk
    exact ⟨(hB.cell (p := ⟨b, _, none⟩) hb).trans c0, (hB.cell (p := ⟨b, _, none⟩) hb).trans c1, (hB.cell (p := ⟨b, _, none⟩) hb).trans c2⟩, h.bd⟩
theorem su_cells (W : World) {a : Option Addr} {len cap : Nat} {xs : List Dt} (h : SliceFits Try.prog W 81 a len cap xs) : ∃ (b o : Nat) (E : Nat → SuE), SuIn W a len cap b o E := by
  have hc : Try.prog.cellsOf 81 = 3 := by kernel_rfl
  obtain ⟨b, o, h1, h2⟩ := h.spot (by rw [hc]; omega)
  have hex : ∀ k, ∃ q : SuE, k < len → (W.cell? ⟨b, o + k * 3, none⟩ = some (.int .i64 q.ticks) ∧ W.cell? ⟨b, o + k * 3 + 1, none⟩ = some (.int .i64 q.leader) ∧ W.cell? ⟨b, o + k * 3 + 2, none⟩ = some (.int .i64 q.shaper)) ∧ q.ok := fun k => by
    by_cases hk : k < len
    · have hl := h.length
      have hx := List.getElem?_eq_getElem (l := xs) (i := k) (by omega)
      obtain ⟨l0, hxe, hl0, hf0⟩ := (h.each k _ hx).1.agg_inv Try.underlying81
      obtain ⟨y0_0, e0_0, f0_0⟩ := hf0 0 _ rfl
      obtain ⟨y0_1, e0_1, f0_1⟩ := hf0 1 _ rfl
      obtain ⟨y0_2, e0_2, f0_2⟩ := hf0 2 _ rfl
      obtain ⟨v0_0, rfl, gv0_0⟩ := f0_0.int_inv Try.underlying3
      obtain ⟨v0_1, rfl, gv0_1⟩ := f0_1.int_inv Try.underlying3
      obtain ⟨v0_2, rfl, gv0_2⟩ := f0_2.int_inv Try.underlying3
      match l0, hl0 with
      | [z0_0, z0_1, z0_2], _ =>
        obtain rfl : z0_0 = _ := by simpa using e0_0
        obtain rfl : z0_1 = _ := by simpa using e0_1
        obtain rfl : z0_2 = _ := by simpa using e0_2
        have hcell := h2 k _ hx
        rw [hxe, hc] at hcell
        exact ⟨⟨v0_0, v0_1, v0_2⟩, fun _ => ⟨⟨hcell 0 _ rfl, by have := hcell 1 _ rfl; rwa [← Nat.add_assoc] at this, by have := hcell 2 _ rfl; rwa [← Nat.add_assoc] at this⟩, gv0_0, gv0_1, gv0_2⟩⟩
    · exact ⟨⟨0, 0, 0⟩, fun h => absurd h hk⟩
  have hg := fun k => Classical.choose_spec (hex k)
  exact ⟨b, o, fun k => Classical.choose (hex k), h.le, h.max, h1, fun k hk => (hg k hk).1, fun k hk => (hg k hk).2⟩
def suL (E : Nat → SuE) (n : Nat) : List Value := (List.range n).flatMap fun k => (E k).cells
theorem suL_succ (E : Nat → SuE) (n : Nat) : suL E (n + 1) = suL E n ++ (E n).cells := by simp [suL, List.range_succ, List.flatMap_append]
theorem suL_len (E : Nat → SuE) : ∀ n : Nat, (suL E n).length = n * 3
  | 0 => by simp [suL]
  | n + 1 => by rw [suL_succ, List.length_append, suL_len E n]; simp [SuE.cells]; omega
theorem suL_congr {E E' : Nat → SuE} : ∀ {n : Nat}, (∀ k, k < n → E k = E' k) → suL E n = suL E' n
  | 0, _ => rfl
  | n + 1, h => by rw [suL_succ, suL_succ, suL_congr (fun k hk => h k (by omega)), h n (by omega)]
theorem suL_at (E : Nat → SuE) : ∀ (n k j : Nat), k < n → j < 3 → (suL E n)[k * 3 + j]? = (E k).cells[j]?
  | 0, _, _, h, _ => by omega
  | n + 1, k, j, h, hj => by
    have hl := suL_len E n
    rw [suL_succ]
    by_cases hk : k < n
    · rw [List.getElem?_append_left (by omega)]
      exact suL_at E n k j hk hj
    · obtain rfl : k = n := by omega
      rw [List.getElem?_append_right (by omega), hl]
      congr 1
      omega
theorem su_row {w : World} {v : Value} {ob : Option Nat} {E : Nat → SuE} {n : Nat} (h : Row w v ob 81 3 n (suL E n)) (hE : ∀ k, k < n → (E k).ok) :
    ∃ a cap, v = .slice a n cap ∧ SuIn w a n cap (ob.getD 0) 0 E := by
  obtain ⟨a, cap, rfl, h1, h2, h3⟩ := h.shape
  refine ⟨a, cap, rfl, h1, h2, fun hk => ?_, fun k hk => ?_, hE⟩
  · obtain ⟨g, hg, _⟩ := h.cell 0 (by omega)
    subst hg
    exact ⟨h3, h.lt⟩
  · have hh : ∀ j, j < 3 → w.cell? ⟨ob.getD 0, 0 + k * 3 + j, none⟩ = (E k).cells[j]? := fun j hj => by
      obtain ⟨g, hg, hc, _⟩ := h.cell (k * 3 + j) (by omega)
      subst hg
      rw [Option.getD_some, Nat.zero_add, hc, suL_at E n k j hk hj]
    exact ⟨hh 0 (by omega), hh 1 (by omega), hh 2 (by omega)⟩

/-- the leases of the law's state: one, of the number 7 -/
def suF (_ : Nat) : LeE := ⟨7, 0, 0, 0, 0, 0, 0⟩
/-- the blocks of the law's own: the leases, and the state -/
structure StB (w : World) (N : Nat) : Prop where
  le : Blk w N #[.int .i64 7, .int .i64 0, .int .i64 0, .int .i64 0, .int .i64 0, .int .i64 0, .int .i64 0] 64
  st : Blk w (N + 1) #[.int .i64 0, .int .i64 0, .int .i64 0, .slice none 0 0, .slice (some ⟨N, 0, none⟩) 1 1, .slice none 0 0, .slice none 0 0] 70
theorem StB.below {w w' : World} {N : Nat} (h : StB w N) (hB : Below w.heap.size w w') : StB w' N := ⟨h.le.step hB, h.st.step hB⟩
theorem StB.fr {w w' : World} {N : Nat} {l : List Nat} (h : StB w N) (hf : Fr l w w') (h1 : N ∉ l) (h2 : N + 1 ∉ l) : StB w' N := ⟨(hf.block _ h.le.lt h1).trans h.le, (hf.block _ h.st.lt h2).trans h.st⟩
theorem StB.les {w : World} {N : Nat} (h : StB w N) : LeIn w (some ⟨N, 0, none⟩) 1 1 N 0 suF := by
  refine ⟨Nat.le_refl _, by unfold maxLen; omega, fun _ => ⟨rfl, h.le.lt⟩, fun k hk => ?_, fun k hk => by simp [LeE.ok, suF]⟩
  obtain rfl : k = 0 := by omega
  exact ⟨cell_at h.le 0, cell_at h.le 1, cell_at h.le 2, cell_at h.le 3, cell_at h.le 4, cell_at h.le 5, cell_at h.le 6⟩

theorem mf_fit (own : Bool) (told k read now el : Int) (h0 : 0 ≤ now) (h1 : now ≤ 1319413953331200) (e0 : 0 ≤ el) (e1 : el ≤ now) (r0 : 0 ≤ read) (r1 : read ≤ 1319413953331200) : fitD el now (mfS own told k read) := by
  intro id
  unfold mfS madeM
  split
  · by_cases h : id = 7
    · simp [h]; omega
    · simp [h]; omega
  · simp; omega
/-- is the lease over? -/
def ovB (own : Bool) (told k read el now la : Int) : Bool := overB el now la (mfS own told k read) 7
theorem ov_row (own : Bool) (told k read el now la : Int) : ovL (overB el now la (mfS own told k read)) suF 1 = if ovB own told k read el now la then [7] else [] := by
  show [] ++ (if overB el now la (mfS own told k read) (suF 0).id then [(suF 0).id] else []) = _
  rw [List.nil_append]
  rfl

/-- Over, of the law's state -/
theorem suOver (own : Bool) (told k read el now la t : Int) (N g b : Nat) (w : World) (hst : StB w N) (hg : N ≠ g) (hd : DkIn w g b el now la (mfS own told k read)) (h0 : 0 ≤ now) (h1 : now ≤ 1319413953331200) (t0 : 0 ≤ t) (t1 : t ≤ 1319413953331200) (e0 : 0 ≤ el) (e1 : el ≤ now) (r0 : 0 ≤ read) (r1 : read ≤ 1319413953331200) :
    Calls Try.prog 31 #[.pointer (some ⟨g, 0, none⟩), .agg #[.int .i64 0, .int .i64 0, .int .i64 0, .slice none 0 0, .slice (some ⟨N, 0, none⟩) 1 1, .slice none 0 0, .slice none 0 0], .int .i64 t] w fun e w' => ∃ a n c, e = .returned (.slice a n c) ∧ (n = if ovB own told k read el (max now t) la then 1 else 0) ∧ DkIn w' g b el (max now t) la (mfS own told k read) ∧ Fr [g] w w' := by
  have := gover_any t 0 0 0 (some ⟨N, 0, none⟩) 1 1 N 0 suF g b el now la (mfS own told k read) w hst.les (by omega) hg hd (mf_fit own told k read (max now t) el (by omega) (by omega) e0 (by omega) r0 r1)
  refine this.mono ?_
  rintro e w' ⟨v, rfl, ⟨ob, hr, _⟩, h2, h3⟩
  obtain ⟨a, c, rfl, _, _, _⟩ := hr.shape
  refine ⟨a, _, c, rfl, ?_, h2, h3⟩
  rw [ov_row]
  split <;> rfl

/-- how the law stands ahead of step k (kt: which steps may have told) -/
structure SurI (Z : Nat) (own : Bool) (ask made told rho la : Int) (k kt : Nat) (A B T sent read : Int) (vd : Value) (w : World) : Prop where
  a : CkAt w Z A T rho
  b : CkAt w (Z + 1) B T rho
  st : StB w (Z + 2)
  oka : CkOk A T rho
  okb : CkOk B T rho
  z : k = 0 → A = 0
  s0 : 0 ≤ sent
  s1 : sent ≤ B
  r0 : 0 ≤ read
  r1 : read ≤ A
  lag : 0 ≤ made → made < (k : Int) → 0 ≤ ask → LagP A B T rho read sent
  desk : (¬ hasD own made k ∧ vd = .pointer none) ∨ hasD own made k ∧ ∃ g b now, vd = .pointer (some ⟨g, 0, none⟩) ∧ DkIn w g b (elS own read) now la (mfS own told kt read) ∧ now ≤ A ∧ elS own read ≤ now ∧ Z + 4 ≤ g ∧ Z + 4 ≤ b
theorem SurI.below {Z : Nat} {own : Bool} {ask made told rho la : Int} {k kt : Nat} {A B T sent read : Int} {vd : Value} {w w' : World} (h : SurI Z own ask made told rho la k kt A B T sent read vd w) (hB : Below w.heap.size w w') : SurI Z own ask made told rho la k kt A B T sent read vd w' := by
  refine ⟨(hB.block Z (lt_of_block h.a)).trans h.a, (hB.block (Z + 1) (lt_of_block h.b)).trans h.b, h.st.below hB, h.oka, h.okb, h.z, h.s0, h.s1, h.r0, h.r1, h.lag, ?_⟩
  rcases h.desk with hd | ⟨h1, g, b, now, h2, h3, h4⟩
  · exact .inl hd
  · exact .inr ⟨h1, g, b, now, h2, h3.below hB, h4⟩
theorem SurI.sent {Z : Nat} {own : Bool} {ask made told rho la : Int} {k kt : Nat} {A B T sent read : Int} {vd : Value} {w : World} (h : SurI Z own ask made told rho la k kt A B T sent read vd w) (hk : (k : Int) ≤ made) : SurI Z own ask made told rho la k kt A B T B read vd w :=
  ⟨h.a, h.b, h.st, h.oka, h.okb, h.z, h.okb.bd.1, Int.le_refl _, h.r0, h.r1, fun _ h2 => absurd h2 (by omega), h.desk⟩
/-- told, at step k -/
def toldS (own : Bool) (made : Int) : Int := min made 200 + if own then 1 else 0
theorem mf_same {own : Bool} {told read : Int} {k : Nat} (h : ¬ (own = true ∧ told = (k : Int))) : mfS own told ((k + 1 : Nat) : Int) read = mfS own told (k : Int) read := by
  unfold mfS
  by_cases h1 : own = true ∧ 0 ≤ told ∧ told < (k : Int)
  · rw [if_pos h1, if_pos ⟨h1.1, h1.2.1, by omega⟩]
  · rw [if_neg h1, if_neg (fun h2 => h1 ⟨h2.1, h2.2.1, by
      have : ¬ told = (k : Int) := fun e => h ⟨h2.1, e⟩
      omega⟩)]
theorem mf_none {own : Bool} {told read : Int} {k : Nat} (h : (k : Int) ≤ told ∨ own = false) : mfS own told (k : Int) read = fun _ => none := by
  unfold mfS
  rw [if_neg]
  rintro ⟨h1, h2, h3⟩
  rcases h with h | h
  · omega
  · rw [h] at h1; cases h1
theorem mf_zero {own : Bool} {told read : Int} : mfS own told ((0 : Nat) : Int) read = fun _ => none := by
  unfold mfS
  rw [if_neg]
  rintro ⟨h1, h2, h3⟩
  omega
theorem mf_made {told read : Int} {k : Nat} (h : told = (k : Int)) : madeM (mfS true told (k : Int) read) 7 read = mfS true told ((k + 1 : Nat) : Int) read := by
  rw [mf_none (.inl (by omega))]
  unfold mfS
  rw [if_pos ⟨rfl, by omega, by omega⟩]
/-- nothing is made at step k -/
theorem SurI.skip {Z : Nat} {own : Bool} {ask made told rho la : Int} {k : Nat} {A B T sent read : Int} {vd : Value} {w : World} (h : SurI Z own ask made told rho la k k A B T sent read vd w) (h1 : ¬ (k : Int) = made) (h2 : ¬ (k = 0 ∧ own = true)) : SurI Z own ask made told rho la (k + 1) k A B T sent read vd w := by
  have hh : hasD own made ((k + 1 : Nat) : Int) ↔ hasD own made (k : Int) := by
    unfold hasD
    cases own
    · simp; omega
    · have : ¬ k = 0 := fun e => h2 ⟨e, rfl⟩
      simp; omega
  refine ⟨h.a, h.b, h.st, h.oka, h.okb, fun e => by omega, h.s0, h.s1, h.r0, h.r1, fun a1 a2 a3 => h.lag a1 (by omega) a3, ?_⟩
  rw [hh]
  exact h.desk
/-- nothing is told at step k -/
theorem SurI.hush {Z : Nat} {own : Bool} {ask made told rho la : Int} {k : Nat} {A B T sent read : Int} {vd : Value} {w : World} (h : SurI Z own ask made told rho la (k + 1) k A B T sent read vd w) (h1 : ¬ (own = true ∧ told = (k : Int))) : SurI Z own ask made told rho la (k + 1) (k + 1) A B T sent read vd w := by
  refine ⟨h.a, h.b, h.st, h.oka, h.okb, h.z, h.s0, h.s1, h.r0, h.r1, h.lag, ?_⟩
  rw [mf_same h1]
  exact h.desk
/-- the desk is made at step k; and it is read -/
theorem SurI.newD {Z : Nat} {own : Bool} {ask made told rho la : Int} {k g b : Nat} {A B T sent read read' : Int} {vd : Value} {w : World} (h : SurI Z own ask made told rho la k k A B T sent read vd w) (hc : (own = true ∧ k = 0) ∨ (own = false ∧ (k : Int) = made)) (hr : ((k : Int) = made ∧ read' = A) ∨ (¬ (k : Int) = made ∧ read' = read)) (hd : DkIn w g b A A la (fun _ => none)) (hg : Z + 4 ≤ g) (hb : Z + 4 ≤ b) : SurI Z own ask made told rho la (k + 1) k A B T sent read' (.pointer (some ⟨g, 0, none⟩)) w := by
  have hA := h.oka.bd.1
  refine ⟨h.a, h.b, h.st, h.oka, h.okb, fun e => by omega, h.s0, h.s1, ?_, ?_, fun a1 a2 a3 => ?_, .inr ⟨?_, g, b, A, rfl, ?_, Int.le_refl _, ?_, hg, hb⟩⟩
  · rcases hr with ⟨_, e⟩ | ⟨_, e⟩ <;> rw [e]
    · exact hA
    · exact h.r0
  · rcases hr with ⟨_, e⟩ | ⟨_, e⟩ <;> rw [e]
    · exact Int.le_refl _
    · exact h.r1
  · rcases hr with ⟨_, e⟩ | ⟨e1, e⟩
    · rw [e]; exact LagP.start h.s1
    · rw [e]; exact h.lag a1 (by omega) a3
  · unfold hasD
    rcases hc with ⟨e, e2⟩ | ⟨e, e2⟩
    · simp [e]
    · simp [e]; omega
  · rcases hc with ⟨e, e2⟩ | ⟨e, e2⟩
    · have h0 := h.z e2
      subst e2
      rw [mf_zero, e]
      unfold elS
      simpa [h0] using hd
    · rw [mf_none (.inr e), e]
      have : read' = A := by rcases hr with ⟨_, e3⟩ | ⟨e3, _⟩; exact e3; exact absurd e2 e3
      rw [this]
      exact hd
  · unfold elS
    rcases hc with ⟨e, _⟩ | ⟨e, e2⟩
    · rw [e]; exact hA
    · have : read' = A := by rcases hr with ⟨_, e3⟩ | ⟨e3, _⟩; exact e3; exact absurd e2 e3
      rw [e, this]
      exact Int.le_refl _
/-- the clock is read at step k, where the desk stands -/
theorem SurI.readD {Z : Nat} {own : Bool} {ask made told rho la : Int} {k : Nat} {A B T sent read : Int} {vd : Value} {w : World} (h : SurI Z own ask made told rho la k k A B T sent read vd w) (htold : told = toldS own made) (hk : k < 100) (ho : own = true) (h0 : 0 < k) (hm : (k : Int) = made) : SurI Z own ask made told rho la (k + 1) k A B T sent A vd w := by
  have hA := h.oka.bd.1
  have ht : (k : Int) ≤ told := by rw [htold, ho]; unfold toldS; simp; omega
  refine ⟨h.a, h.b, h.st, h.oka, h.okb, fun e => by omega, h.s0, h.s1, hA, Int.le_refl _, fun _ _ _ => LagP.start h.s1, ?_⟩
  have hh : hasD own made ((k + 1 : Nat) : Int) := by unfold hasD; simp [ho]
  rcases h.desk with ⟨h1, _⟩ | ⟨_, g, b, now, h2, h3, h4, h5, h6⟩
  · exact absurd (by unfold hasD; simp [ho]; omega) h1
  · refine .inr ⟨hh, g, b, now, h2, ?_, h4, ?_, h6⟩
    · rw [mf_none (.inl ht)] at h3 ⊢
      rw [ho] at h3 ⊢
      exact h3
    · rw [ho] at h5 ⊢
      exact h5
/-- the desk goes on -/
theorem SurI.redesk {Z : Nat} {own : Bool} {ask made told rho la : Int} {k kt kt' g b : Nat} {A B T sent read now : Int} {vd : Value} {w w' : World} (h : SurI Z own ask made told rho la k kt A B T sent read vd w) (hh : hasD own made k) (hf : Fr [g, b] w w') (hd : DkIn w' g b (elS own read) now la (mfS own told kt' read)) (h1 : now ≤ A) (h2 : elS own read ≤ now) (hg : Z + 4 ≤ g) (hb : Z + 4 ≤ b) : SurI Z own ask made told rho la k kt' A B T sent read (.pointer (some ⟨g, 0, none⟩)) w' :=
  ⟨(hf.block Z (lt_of_block h.a) (by simp; omega)).trans h.a, (hf.block (Z + 1) (lt_of_block h.b) (by simp; omega)).trans h.b, h.st.fr hf (by simp; omega) (by simp; omega), h.oka, h.okb, h.z, h.s0, h.s1, h.r0, h.r1, h.lag, .inr ⟨hh, g, b, now, rfl, hd, h1, h2, hg, hb⟩⟩
/-- both clocks go on -/
theorem SurI.step {Z : Nat} {own : Bool} {ask made told rho la : Int} {k kt : Nat} {A B T sent read : Int} {vd : Value} {w w' : World} (h : SurI Z own ask made told rho la (k + 1) kt A B T sent read vd w) (n wa wb : Int) (hf : Fr [Z, Z + 1] w w') (ha : CkAt w' Z (stepN A T rho n wa) (stepT T n) rho) (hb : CkAt w' (Z + 1) (stepN B T rho n wb) (stepT T n) rho) : SurI Z own ask made told rho la (k + 1) kt (stepN A T rho n wa) (stepN B T rho n wb) (stepT T n) sent read vd w' := by
  have lA := stepN_le (A := A) (T := T) h.oka.r0 h.oka.r1 n wa
  have lB := stepN_le (A := B) (T := T) h.oka.r0 h.oka.r1 n wb
  refine ⟨ha, hb, h.st.fr hf (by simp) (by simp; omega), h.oka.any n wa, h.okb.any n wb, fun e => by omega, h.s0, Int.le_trans h.s1 lB, h.r0, Int.le_trans h.r1 lA, fun a1 a2 a3 => (h.lag a1 a2 a3).step h.oka.r0 h.oka.r1 n wa wb, ?_⟩
  rcases h.desk with hd | ⟨h1, g, b, now, h2, h3, h4, h5, h6, h7⟩
  · exact .inl hd
  · exact .inr ⟨h1, g, b, now, h2, ⟨(hf.block g h3.blk.lt (by simp; omega)).trans h3.blk, h3.map.congr (hf.block b h3.map.lt (by simp; omega)), h3.ne⟩, Int.le_trans h4 lA, h5, h6, h7⟩
/-- where the lease is over, the shaper's ticks have gone by -/
theorem SurI.sure {Z : Nat} {own : Bool} {ask made told rho la ticks : Int} {k : Nat} {A B T sent read now : Int} {vd : Value} {w : World} (h : SurI Z own ask made told rho la (k + 1) (k + 1) A B T sent read vd w) (htold : told = toldS own made) (hk : k < 100) (hla : la = overS ticks rho) (t0 : 1 ≤ ticks) (t1 : ticks ≤ 1099511627776) (c1 : told ≤ (k : Int)) (c2 : 0 ≤ made) (c3 : 0 ≤ ask) (hn : now ≤ A) (ho : ovB own told ((k + 1 : Nat) : Int) read (elS own read) now la = true) : 1000 * ticks ≤ B - sent := by
  have hmk : made < ((k + 1 : Nat) : Int) := by rw [htold] at c1; unfold toldS at c1; split at c1 <;> omega
  refine (h.lag c2 hmk c3).enough h.oka.r0 h.oka.r1 t0 t1 hn ?_
  unfold ovB overB at ho
  have hr : (mfS own told ((k + 1 : Nat) : Int) read 7).getD (elS own read) = read := by
    cases own
    · rw [mf_none (.inr rfl)]; rfl
    · have : (0 : Int) ≤ told := by rw [htold]; unfold toldS; simp; omega
      unfold mfS
      rw [if_pos ⟨rfl, this, by omega⟩]
      simp [madeM]
  rw [hr] at ho
  rw [← hla]
  exact of_decide_eq_true ho
end Go.Proofs.Ytlgjdiadohhleaa
