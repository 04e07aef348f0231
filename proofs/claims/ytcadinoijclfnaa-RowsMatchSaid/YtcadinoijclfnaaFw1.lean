/-
  Package follow: rows of progress; the members of a set; a node's progress found.
-/
import Derived.Deep.DeepCutAuto
import Derived.WalkMore
import Derived.Laws.OwnMore
import Derived.Test.YtcadinoijclfnaaBl
import Derived.Test.YtcadinoijclfnaaDt
namespace Go.Proofs.Ytcadinoijclfnaa
open Go.RowKit
set_option linter.unusedSimpArgs false
set_option linter.unusedVariables false

structure PgE where
  node : Int
  match_ : Int
  next_ : Int
def PgE.cells (e : PgE) : List Value := [.int .i64 e.node, .int .i64 e.match_, .int .i64 e.next_]
def PgE.ok (e : PgE) : Prop := (-9223372036854775808 ≤ e.node ∧ e.node ≤ 9223372036854775807) ∧ (-9223372036854775808 ≤ e.match_ ∧ e.match_ ≤ 9223372036854775807) ∧ (-9223372036854775808 ≤ e.next_ ∧ e.next_ ≤ 9223372036854775807)
structure PgIn (W : World) (a : Option Addr) (len cap b o : Nat) (E : Nat → PgE) : Prop where
  le : len ≤ cap
  max : cap ≤ maxLen
  at_ : 0 < len → a = some ⟨b, o, none⟩ ∧ b < W.heap.size
  cell : ∀ k, k < len → W.cell? ⟨b, o + k * 3, none⟩ = some (.int .i64 (E k).node) ∧ W.cell? ⟨b, o + k * 3 + 1, none⟩ = some (.int .i64 (E k).match_) ∧ W.cell? ⟨b, o + k * 3 + 2, none⟩ = some (.int .i64 (E k).next_)
  bd : ∀ k, k < len → (E k).ok
theorem PgIn.below {W W' : World} {a : Option Addr} {len cap b o : Nat} {E : Nat → PgE} (h : PgIn W a len cap b o E) (hB : Below W.heap.size W W') : PgIn W' a len cap b o E :=
  ⟨h.le, h.max, fun hk => ⟨(h.at_ hk).1, by have := (h.at_ hk).2; have := hB.size; omega⟩, fun k hk => by
    have hb := (h.at_ (by omega)).2
    obtain ⟨c0, c1, c2⟩ := h.cell k hk
    exact ⟨(hB.cell (p := ⟨b, _, none⟩) hb).trans c0, (hB.cell (p := ⟨b, _, none⟩) hb).trans c1, (hB.cell (p := ⟨b, _, none⟩) hb).trans c2⟩, h.bd⟩
theorem pg_cells (W : World) {a : Option Addr} {len cap : Nat} {xs : List Dt} (h : SliceFits Try.prog W 54 a len cap xs) : ∃ (b o : Nat) (E : Nat → PgE), PgIn W a len cap b o E := by
  have hc : Try.prog.cellsOf 54 = 3 := by kernel_rfl
  obtain ⟨b, o, h1, h2⟩ := h.spot (by rw [hc]; omega)
  have hex : ∀ k, ∃ q : PgE, k < len → (W.cell? ⟨b, o + k * 3, none⟩ = some (.int .i64 q.node) ∧ W.cell? ⟨b, o + k * 3 + 1, none⟩ = some (.int .i64 q.match_) ∧ W.cell? ⟨b, o + k * 3 + 2, none⟩ = some (.int .i64 q.next_)) ∧ q.ok := fun k => by
    by_cases hk : k < len
    · have hl := h.length
      have hx := List.getElem?_eq_getElem (l := xs) (i := k) (by omega)
      obtain ⟨l0, hxe, hl0, hf0⟩ := (h.each k _ hx).1.agg_inv Try.underlying54
      obtain ⟨y0_0, e0_0, f0_0⟩ := hf0 0 _ rfl
      obtain ⟨y0_1, e0_1, f0_1⟩ := hf0 1 _ rfl
      obtain ⟨y0_2, e0_2, f0_2⟩ := hf0 2 _ rfl
      obtain ⟨v0_0, rfl, gv0_0⟩ := f0_0.int_inv Try.underlying3
      obtain ⟨v0_1, rfl, gv0_1⟩ := f0_1.int_inv Try.underlying3
      obtain ⟨v0_2, rfl, gv0_2⟩ := f0_2.int_inv Try.underlying3
      match l0, hl0 with
      | [z0_0, z0_1, z0_2], _ =>
        obtain rfl : z0_0 = _ := by simpa using e0_0
        obtain rfl : z0_1 = _ := by simpa using e0_1
        obtain rfl : z0_2 = _ := by simpa using e0_2
        have hcell := h2 k _ hx
        rw [hxe, hc] at hcell
        exact ⟨⟨v0_0, v0_1, v0_2⟩, fun _ => ⟨⟨hcell 0 _ rfl, by have := hcell 1 _ rfl; rwa [← Nat.add_assoc] at this, by have := hcell 2 _ rfl; rwa [← Nat.add_assoc] at this⟩, gv0_0, gv0_1, gv0_2⟩⟩
    · exact ⟨⟨0, 0, 0⟩, fun h => absurd h hk⟩
  have hg := fun k => Classical.choose_spec (hex k)
  exact ⟨b, o, fun k => Classical.choose (hex k), h.le, h.max, h1, fun k hk => (hg k hk).1, fun k hk => (hg k hk).2⟩
def pgL (E : Nat → PgE) (n : Nat) : List Value := (List.range n).flatMap fun k => (E k).cells
theorem pgL_succ (E : Nat → PgE) (n : Nat) : pgL E (n + 1) = pgL E n ++ (E n).cells := by simp [pgL, List.range_succ, List.flatMap_append]
theorem pgL_len (E : Nat → PgE) : ∀ n : Nat, (pgL E n).length = n * 3
  | 0 => by simp [pgL]
  | n + 1 => by rw [pgL_succ, List.length_append, pgL_len E n]; simp [PgE.cells]; omega
theorem pgL_congr {E E' : Nat → PgE} : ∀ {n : Nat}, (∀ k, k < n → E k = E' k) → pgL E n = pgL E' n
  | 0, _ => rfl
  | n + 1, h => by rw [pgL_succ, pgL_succ, pgL_congr (fun k hk => h k (by omega)), h n (by omega)]
theorem pgL_at (E : Nat → PgE) : ∀ (n k j : Nat), k < n → j < 3 → (pgL E n)[k * 3 + j]? = (E k).cells[j]?
  | 0, _, _, h, _ => by omega
  | n + 1, k, j, h, hj => by
    have hl := pgL_len E n
    rw [pgL_succ]
    by_cases hk : k < n
    · rw [List.getElem?_append_left (by omega)]
      exact pgL_at E n k j hk hj
    · obtain rfl : k = n := by omega
      rw [List.getElem?_append_right (by omega), hl]
      congr 1
      omega
theorem pg_row {w : World} {v : Value} {ob : Option Nat} {E : Nat → PgE} {n : Nat} (h : Row w v ob 54 3 n (pgL E n)) (hE : ∀ k, k < n → (E k).ok) :
    ∃ a cap, v = .slice a n cap ∧ PgIn w a n cap (ob.getD 0) 0 E := by
  obtain ⟨a, cap, rfl, h1, h2, h3⟩ := h.shape
  refine ⟨a, cap, rfl, h1, h2, fun hk => ?_, fun k hk => ?_, hE⟩
  · obtain ⟨g, hg, _⟩ := h.cell 0 (by omega)
    subst hg
    exact ⟨h3, h.lt⟩
  · have hh : ∀ j, j < 3 → w.cell? ⟨ob.getD 0, 0 + k * 3 + j, none⟩ = (E k).cells[j]? := fun j hj => by
      obtain ⟨g, hg, hc, _⟩ := h.cell (k * 3 + j) (by omega)
      subst hg
      rw [Option.getD_some, Nat.zero_add, hc, pgL_at E n k j hk hj]
    exact ⟨hh 0 (by omega), hh 1 (by omega), hh 2 (by omega)⟩

theorem fwInt : (Try.prog.info? 3).map (fun i => (i.zero, i.size, i.bytes)) = some (some (.int .i64 0), 1, 8) := by kernel_rfl
theorem fw_one (W : World) (x : Value) (e : TypeId) (j : Nat) (u : Value) (h : [x][j]? = some u) : (W.alloc (.cells #[x] e)).cell? ((⟨W.heap.size, 0, none⟩ : Addr).add j) = some u := by
  have hj : j = 0 := by have := (List.getElem?_eq_some_iff.1 h).1; simpa using this
  subst hj
  have hu : x = u := by simpa using h
  subst hu
  have h1 : (W.alloc (.cells #[x] e)).heap[W.heap.size]? = some (.cells #[x] e (0, 0)) := heap_alloc_new W _
  exact cell_at h1 0

/-- is bit k of a set's byte set? -/
def bitB (s : Int) (k : Nat) : Bool := bits .and .u8 (s / (2 : Int) ^ k) 1 == 1
/-- the members among the first k nodes -/
def memF (s : Int) : Nat → List Nat
  | 0 => []
  | k + 1 => memF s k ++ if bitB s k then [k + 1] else []
theorem memF_len (s : Int) : ∀ k : Nat, (memF s k).length ≤ k
  | 0 => by simp [memF]
  | k + 1 => by have := memF_len s k; simp only [memF, List.length_append]; split <;> simp <;> omega
def intsV (l : List Nat) : List Value := l.map fun x => .int .i64 ((x : Nat) : Int)

set_option maxRecDepth 100000 in
set_option maxHeartbeats 4000000 in
theorem members_any (s : Int) (h0 : 0 ≤ s) (h1 : s ≤ 255) (w : World) : Calls Try.prog 53 #[.int .u8 s] w fun e w' => ∃ v ob, e = .returned v ∧ Row w' v ob 3 1 (memF s 7).length (intsV (memF s 7)) ∧ (∀ g, ob = some g → w.heap.size ≤ g) ∧ Below w.heap.size w w' := by
  obtain ⟨i0, hi, hz0, hz1, hz2⟩ := info_parts fwInt
  have HI := Lib.hid hi
  have HZ0 := Lib.hid hz0
  have HZ1 := Lib.hid hz1
  have HZ2 := Lib.hid hz2
  clear hi hz0 hz1 hz2
  go_enter Try.func53, Try.ntmps53
  go_wp2_with fail
  go_loopw [3, 5] (fun v i wr => ∃ (k : Nat) (ob : Option Nat), k ≤ 7 ∧ i = .int .i64 k ∧ Row wr v ob 3 1 (memF s k).length (intsV (memF s k)) ∧ (∀ g, ob = some g → w.heap.size ≤ g) ∧ Below w.heap.size w wr) (fun _ i _ => 7 - (intOf i).toNat)
  case atStart => exact ⟨0, none, Nat.zero_le _, rfl, Row.nil _ _ _, (fun _ h => by cases h), Below.refl _ _⟩
  case round =>
    obtain ⟨k, ob, hk, rfl, hrow, hg, hB⟩ := hrel
    have HROW := Lib.hid hrow
    have HG := Lib.hid hg
    have HB := Lib.hid hB
    clear hrow hg hB
    by_cases hlt : k < 7
    · have hm : memF s (k + 1) = memF s k ++ if bitB s k then [k + 1] else [] := rfl
      have HM := Lib.hid hm
      clear hm
      have hcs : k = 0 ∨ k = 1 ∨ k = 2 ∨ k = 3 ∨ k = 4 ∨ k = 5 ∨ k = 6 := by omega
      rcases hcs with rfl | rfl | rfl | rfl | rfl | rfl | rfl
      · by_cases hb : bitB s 0 = true
        · have hb1 : (bits .and .u8 s 1 == 1) = true := by simpa [bitB] using hb
          rw [if_pos hb] at HM
          clear hb
          go_wp2_with (at_builtin; refine wpList_append_row _ rfl (.tmp 13) (.tmp 16) 76 rfl 3 i0 _ 1 8 Try.underlying76 HI.out HZ0.out HZ1.out HZ2.out rfl (by decide) _ ob (memF s 0).length (intsV (memF s 0)) rfl (HROW.out.alloc _) ⟨wr.heap.size, 0, none⟩ 1 1 [.int .i64 1] rfl (by decide) rfl ?c1 ?c2 ?c3 ?c4 ?_)
          case c1 => exact fw_one wr _ _
          case c2 => intro u hu; exact (List.all_eq_true (p := fun u : Value => u.oneCell')).1 rfl u hu
          case c3 => have := memF_len s 0; unfold maxLen; omega
          case c4 => have := memF_len s 0; omega
          intro v' ob' W3 hrow3 hg3 hob3
          go_wp2_with fail
          go_roundw
          case rel =>
            have hs9 := HB.out.size
            refine ⟨1, some ob', by omega, by go_num, ?_, ?_, (HB.out.alloc HB.out.size _).grown hg3 (by simp; omega) (fun g e => HG.out g e)⟩
            · rw [HM.out, List.length_append]
              unfold intsV
              rw [List.map_append]
              exact hrow3
            · intro g e
              obtain rfl := Option.some.inj e
              rcases hob3 with h | h
              · exact HG.out _ h
              · first | omega | (simp at h; omega)
          case measure => simp [intOf]
        · have hb1 : (bits .and .u8 s 1 == 1) = false := by simpa [bitB] using hb
          rw [if_neg hb, List.append_nil] at HM
          clear hb
          go_wp2_with fail
          go_roundw
          case rel => exact ⟨1, ob, by omega, by go_num, by rw [HM.out]; exact HROW.out, HG.out, HB.out⟩
          case measure => simp [intOf]
      · by_cases hb : bitB s 1 = true
        · have hb1 : (bits .and .u8 (s / 2) 1 == 1) = true := by simpa [bitB] using hb
          rw [if_pos hb] at HM
          clear hb
          go_wp2_with (at_builtin; refine wpList_append_row _ rfl (.tmp 13) (.tmp 16) 76 rfl 3 i0 _ 1 8 Try.underlying76 HI.out HZ0.out HZ1.out HZ2.out rfl (by decide) _ ob (memF s 1).length (intsV (memF s 1)) rfl (HROW.out.alloc _) ⟨wr.heap.size, 0, none⟩ 1 1 [.int .i64 2] rfl (by decide) rfl ?c1 ?c2 ?c3 ?c4 ?_)
          case c1 => exact fw_one wr _ _
          case c2 => intro u hu; exact (List.all_eq_true (p := fun u : Value => u.oneCell')).1 rfl u hu
          case c3 => have := memF_len s 1; unfold maxLen; omega
          case c4 => have := memF_len s 1; omega
          intro v' ob' W3 hrow3 hg3 hob3
          go_wp2_with fail
          go_roundw
          case rel =>
            have hs9 := HB.out.size
            refine ⟨2, some ob', by omega, by go_num, ?_, ?_, (HB.out.alloc HB.out.size _).grown hg3 (by simp; omega) (fun g e => HG.out g e)⟩
            · rw [HM.out, List.length_append]
              unfold intsV
              rw [List.map_append]
              exact hrow3
            · intro g e
              obtain rfl := Option.some.inj e
              rcases hob3 with h | h
              · exact HG.out _ h
              · first | omega | (simp at h; omega)
          case measure => simp [intOf]
        · have hb1 : (bits .and .u8 (s / 2) 1 == 1) = false := by simpa [bitB] using hb
          rw [if_neg hb, List.append_nil] at HM
          clear hb
          go_wp2_with fail
          go_roundw
          case rel => exact ⟨2, ob, by omega, by go_num, by rw [HM.out]; exact HROW.out, HG.out, HB.out⟩
          case measure => simp [intOf]
      · by_cases hb : bitB s 2 = true
        · have hb1 : (bits .and .u8 (s / 4) 1 == 1) = true := by simpa [bitB] using hb
          rw [if_pos hb] at HM
          clear hb
          go_wp2_with (at_builtin; refine wpList_append_row _ rfl (.tmp 13) (.tmp 16) 76 rfl 3 i0 _ 1 8 Try.underlying76 HI.out HZ0.out HZ1.out HZ2.out rfl (by decide) _ ob (memF s 2).length (intsV (memF s 2)) rfl (HROW.out.alloc _) ⟨wr.heap.size, 0, none⟩ 1 1 [.int .i64 3] rfl (by decide) rfl ?c1 ?c2 ?c3 ?c4 ?_)
          case c1 => exact fw_one wr _ _
          case c2 => intro u hu; exact (List.all_eq_true (p := fun u : Value => u.oneCell')).1 rfl u hu
          case c3 => have := memF_len s 2; unfold maxLen; omega
          case c4 => have := memF_len s 2; omega
          intro v' ob' W3 hrow3 hg3 hob3
          go_wp2_with fail
          go_roundw
          case rel =>
            have hs9 := HB.out.size
            refine ⟨3, some ob', by omega, by go_num, ?_, ?_, (HB.out.alloc HB.out.size _).grown hg3 (by simp; omega) (fun g e => HG.out g e)⟩
            · rw [HM.out, List.length_append]
              unfold intsV
              rw [List.map_append]
              exact hrow3
            · intro g e
              obtain rfl := Option.some.inj e
              rcases hob3 with h | h
              · exact HG.out _ h
              · first | omega | (simp at h; omega)
          case measure => simp [intOf]
        · have hb1 : (bits .and .u8 (s / 4) 1 == 1) = false := by simpa [bitB] using hb
          rw [if_neg hb, List.append_nil] at HM
          clear hb
          go_wp2_with fail
          go_roundw
          case rel => exact ⟨3, ob, by omega, by go_num, by rw [HM.out]; exact HROW.out, HG.out, HB.out⟩
          case measure => simp [intOf]
      · by_cases hb : bitB s 3 = true
        · have hb1 : (bits .and .u8 (s / 8) 1 == 1) = true := by simpa [bitB] using hb
          rw [if_pos hb] at HM
          clear hb
          go_wp2_with (at_builtin; refine wpList_append_row _ rfl (.tmp 13) (.tmp 16) 76 rfl 3 i0 _ 1 8 Try.underlying76 HI.out HZ0.out HZ1.out HZ2.out rfl (by decide) _ ob (memF s 3).length (intsV (memF s 3)) rfl (HROW.out.alloc _) ⟨wr.heap.size, 0, none⟩ 1 1 [.int .i64 4] rfl (by decide) rfl ?c1 ?c2 ?c3 ?c4 ?_)
          case c1 => exact fw_one wr _ _
          case c2 => intro u hu; exact (List.all_eq_true (p := fun u : Value => u.oneCell')).1 rfl u hu
          case c3 => have := memF_len s 3; unfold maxLen; omega
          case c4 => have := memF_len s 3; omega
          intro v' ob' W3 hrow3 hg3 hob3
          go_wp2_with fail
          go_roundw
          case rel =>
            have hs9 := HB.out.size
            refine ⟨4, some ob', by omega, by go_num, ?_, ?_, (HB.out.alloc HB.out.size _).grown hg3 (by simp; omega) (fun g e => HG.out g e)⟩
            · rw [HM.out, List.length_append]
              unfold intsV
              rw [List.map_append]
              exact hrow3
            · intro g e
              obtain rfl := Option.some.inj e
              rcases hob3 with h | h
              · exact HG.out _ h
              · first | omega | (simp at h; omega)
          case measure => simp [intOf]
        · have hb1 : (bits .and .u8 (s / 8) 1 == 1) = false := by simpa [bitB] using hb
          rw [if_neg hb, List.append_nil] at HM
          clear hb
          go_wp2_with fail
          go_roundw
          case rel => exact ⟨4, ob, by omega, by go_num, by rw [HM.out]; exact HROW.out, HG.out, HB.out⟩
          case measure => simp [intOf]
      · by_cases hb : bitB s 4 = true
        · have hb1 : (bits .and .u8 (s / 16) 1 == 1) = true := by simpa [bitB] using hb
          rw [if_pos hb] at HM
          clear hb
          go_wp2_with (at_builtin; refine wpList_append_row _ rfl (.tmp 13) (.tmp 16) 76 rfl 3 i0 _ 1 8 Try.underlying76 HI.out HZ0.out HZ1.out HZ2.out rfl (by decide) _ ob (memF s 4).length (intsV (memF s 4)) rfl (HROW.out.alloc _) ⟨wr.heap.size, 0, none⟩ 1 1 [.int .i64 5] rfl (by decide) rfl ?c1 ?c2 ?c3 ?c4 ?_)
          case c1 => exact fw_one wr _ _
          case c2 => intro u hu; exact (List.all_eq_true (p := fun u : Value => u.oneCell')).1 rfl u hu
          case c3 => have := memF_len s 4; unfold maxLen; omega
          case c4 => have := memF_len s 4; omega
          intro v' ob' W3 hrow3 hg3 hob3
          go_wp2_with fail
          go_roundw
          case rel =>
            have hs9 := HB.out.size
            refine ⟨5, some ob', by omega, by go_num, ?_, ?_, (HB.out.alloc HB.out.size _).grown hg3 (by simp; omega) (fun g e => HG.out g e)⟩
            · rw [HM.out, List.length_append]
              unfold intsV
              rw [List.map_append]
              exact hrow3
            · intro g e
              obtain rfl := Option.some.inj e
              rcases hob3 with h | h
              · exact HG.out _ h
              · first | omega | (simp at h; omega)
          case measure => simp [intOf]
        · have hb1 : (bits .and .u8 (s / 16) 1 == 1) = false := by simpa [bitB] using hb
          rw [if_neg hb, List.append_nil] at HM
          clear hb
          go_wp2_with fail
          go_roundw
          case rel => exact ⟨5, ob, by omega, by go_num, by rw [HM.out]; exact HROW.out, HG.out, HB.out⟩
          case measure => simp [intOf]
      · by_cases hb : bitB s 5 = true
        · have hb1 : (bits .and .u8 (s / 32) 1 == 1) = true := by simpa [bitB] using hb
          rw [if_pos hb] at HM
          clear hb
          go_wp2_with (at_builtin; refine wpList_append_row _ rfl (.tmp 13) (.tmp 16) 76 rfl 3 i0 _ 1 8 Try.underlying76 HI.out HZ0.out HZ1.out HZ2.out rfl (by decide) _ ob (memF s 5).length (intsV (memF s 5)) rfl (HROW.out.alloc _) ⟨wr.heap.size, 0, none⟩ 1 1 [.int .i64 6] rfl (by decide) rfl ?c1 ?c2 ?c3 ?c4 ?_)
          case c1 => exact fw_one wr _ _
          case c2 => intro u hu; exact (List.all_eq_true (p := fun u : Value => u.oneCell')).1 rfl u hu
          case c3 => have := memF_len s 5; unfold maxLen; omega
          case c4 => have := memF_len s 5; omega
          intro v' ob' W3 hrow3 hg3 hob3
          go_wp2_with fail
          go_roundw
          case rel =>
            have hs9 := HB.out.size
            refine ⟨6, some ob', by omega, by go_num, ?_, ?_, (HB.out.alloc HB.out.size _).grown hg3 (by simp; omega) (fun g e => HG.out g e)⟩
            · rw [HM.out, List.length_append]
              unfold intsV
              rw [List.map_append]
              exact hrow3
            · intro g e
              obtain rfl := Option.some.inj e
              rcases hob3 with h | h
              · exact HG.out _ h
              · first | omega | (simp at h; omega)
          case measure => simp [intOf]
        · have hb1 : (bits .and .u8 (s / 32) 1 == 1) = false := by simpa [bitB] using hb
          rw [if_neg hb, List.append_nil] at HM
          clear hb
          go_wp2_with fail
          go_roundw
          case rel => exact ⟨6, ob, by omega, by go_num, by rw [HM.out]; exact HROW.out, HG.out, HB.out⟩
          case measure => simp [intOf]
      · by_cases hb : bitB s 6 = true
        · have hb1 : (bits .and .u8 (s / 64) 1 == 1) = true := by simpa [bitB] using hb
          rw [if_pos hb] at HM
          clear hb
          go_wp2_with (at_builtin; refine wpList_append_row _ rfl (.tmp 13) (.tmp 16) 76 rfl 3 i0 _ 1 8 Try.underlying76 HI.out HZ0.out HZ1.out HZ2.out rfl (by decide) _ ob (memF s 6).length (intsV (memF s 6)) rfl (HROW.out.alloc _) ⟨wr.heap.size, 0, none⟩ 1 1 [.int .i64 7] rfl (by decide) rfl ?c1 ?c2 ?c3 ?c4 ?_)
          case c1 => exact fw_one wr _ _
          case c2 => intro u hu; exact (List.all_eq_true (p := fun u : Value => u.oneCell')).1 rfl u hu
          case c3 => have := memF_len s 6; unfold maxLen; omega
          case c4 => have := memF_len s 6; omega
          intro v' ob' W3 hrow3 hg3 hob3
          go_wp2_with fail
          go_roundw
          case rel =>
            have hs9 := HB.out.size
            refine ⟨7, some ob', by omega, by go_num, ?_, ?_, (HB.out.alloc HB.out.size _).grown hg3 (by simp; omega) (fun g e => HG.out g e)⟩
            · rw [HM.out, List.length_append]
              unfold intsV
              rw [List.map_append]
              exact hrow3
            · intro g e
              obtain rfl := Option.some.inj e
              rcases hob3 with h | h
              · exact HG.out _ h
              · first | omega | (simp at h; omega)
          case measure => simp [intOf]
        · have hb1 : (bits .and .u8 (s / 64) 1 == 1) = false := by simpa [bitB] using hb
          rw [if_neg hb, List.append_nil] at HM
          clear hb
          go_wp2_with fail
          go_roundw
          case rel => exact ⟨7, ob, by omega, by go_num, by rw [HM.out]; exact HROW.out, HG.out, HB.out⟩
          case measure => simp [intOf]
    · obtain rfl : k = 7 := by omega
      go_wp2_with fail
      go_ret
      exact ⟨_, _, rfl, HROW.out, HG.out, HB.out⟩
end Go.Proofs.Ytcadinoijclfnaa
