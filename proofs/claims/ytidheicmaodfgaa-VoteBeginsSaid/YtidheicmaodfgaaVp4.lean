/-
  VoteBegins: an election that is refused; two rows of asks that are the same.
-/
import Derived.Test.YtidheicmaodfgaaVp3
import Derived.Test.YtidheicmaodfgaaVl
import Derived.Test.YtidheicmaodfgaaVm
import Derived.StillTailTactics
namespace Go.Proofs.Ytidheicmaodfgaa
open Go.RowKit

set_option maxRecDepth 100000 in
set_option maxHeartbeats 8000000 in
theorem begin_bad (ht hv hb base term self : Int) (a : Option Addr) (len cap b o : Nat) (E : Nat → Ent) (s : Nat) (w : World) (hs : EntsIn w a len cap b o E) (h8 : s < 256) (er : Int) (hh : (rowsB base term len E = false ∧ er = 90) ∨ (rowsB base term len E = true ∧ nodeB self = false ∧ er = 2) ∨ (rowsB base term len E = true ∧ nodeB self = true ∧ s.testBit (self.toNat - 1) = false ∧ er = 2)) :
    Calls Try.prog 12 #[.agg #[.int .i64 ht, .int .i64 hv, .int .i64 hb], .agg #[.int .i64 base, .int .i64 term, .slice a len cap], .int .u8 s, .int .i64 self] w (BegP w 0 0 0 0 [] er) := by
  obtain ⟨R, hR⟩ : ∃ R, R = rowsE base term len E := ⟨_, rfl⟩
  have C1 : Hid (∀ W, EntsIn W a len cap b o E → Calls Try.prog 28 #[.agg #[.int .i64 base, .int .i64 term, .slice a len cap]] W fun e w' => e = .returned (.int .i64 R) ∧ Below W.heap.size W w') := Lib.hid (fun W h => by rw [hR]; exact check_any base term a len cap b o E W h)
  have HS := Lib.hid hs
  have HQ := Lib.hid (B4.mk0 w #[.int .i64 ht, .int .i64 hv, .int .i64 hb] #[.int .i64 base, .int .i64 term, .slice a len cap] #[.int .i64 self] #[.int .i64 0, .int .i64 0, .int .i64 0] 3)
  have hcs : (R = 90 ∧ er = 90) ∨ (R = 0 ∧ nodeB self = false ∧ er = 2) ∨ (R = 0 ∧ nodeB self = true ∧ s.testBit (self.toNat - 1) = false ∧ er = 2) := by
    rcases hh with ⟨h, h2⟩ | ⟨h, h2, h3⟩ | ⟨h, h2, h3, h4⟩
    · exact .inl ⟨by rw [hR, rowsE_bad h], h2⟩
    · exact .inr (.inl ⟨by rw [hR, rowsE_ok h], h2, h3⟩)
    · exact .inr (.inr ⟨by rw [hR, rowsE_ok h], h2, h3, h4⟩)
  clear hs hR hh
  rcases hcs with ⟨rfl, rfl⟩ | ⟨rfl, hn, rfl⟩ | ⟨rfl, hn, hb2, rfl⟩
  · go_enter Try.func12, Try.ntmps12
    go_wp2_with (go_at_call 28; refine Calls.mono (C1.out _ (HS.out.below HQ.out.2.2.2.2)) ?_; rintro e W1 ⟨rfl, hW1⟩; have HQ1 := Lib.hid (HQ.out.step hW1); have p0 := cell_at HQ1.out.2.2.2.1 0; have p1 := cell_at HQ1.out.2.2.2.1 1; have p2 := cell_at HQ1.out.2.2.2.1 2; have g0 := free_at HQ1.out.2.2.2.1 0; have g1 := free_at HQ1.out.2.2.2.1 1; have g2 := free_at HQ1.out.2.2.2.1 2; have s0 := cell_at HQ1.out.2.2.1 0; have hl := HQ1.out.lt)
    refine bodyPost_ret (v := .tuple #[.agg #[.int .i64 0, .int .i64 0, .int .i64 0], .slice none 0 0, .int .i64 90]) (by simp [results, Try.results12, go_sem, p0, p1, p2]) rfl ⟨_, _, none, rfl, Row.nil _ _ _, (fun _ h => by cases h), ?_⟩
    exact ((HQ1.out.2.2.2.2.setCell (by simp only; omega) _).setCell (by simp only; omega) _).setCell (by simp only; omega) _
  · have C3 : Hid (∀ W, Calls Try.prog 29 #[.int .i64 self] W fun e w' => e = .returned (.bool false) ∧ W = w') := Lib.hid (fun W => by rw [← hn]; exact isNode_any self W)
    clear hn
    go_enter Try.func12, Try.ntmps12
    go_wp2_with (first
      | (go_at_call 28; refine Calls.mono (C1.out _ (HS.out.below HQ.out.2.2.2.2)) ?_; rintro e W1 ⟨rfl, hW1⟩; have HQ1 := Lib.hid (HQ.out.step hW1); have p0 := cell_at HQ1.out.2.2.2.1 0; have p1 := cell_at HQ1.out.2.2.2.1 1; have p2 := cell_at HQ1.out.2.2.2.1 2; have g0 := free_at HQ1.out.2.2.2.1 0; have g1 := free_at HQ1.out.2.2.2.1 1; have g2 := free_at HQ1.out.2.2.2.1 2; have s0 := cell_at HQ1.out.2.2.1 0; have hl := HQ1.out.lt)
      | (go_at_call 29; refine (C3.out _).mono ?_; rintro e w' ⟨rfl, rfl⟩))
    refine bodyPost_ret (v := .tuple #[.agg #[.int .i64 0, .int .i64 0, .int .i64 0], .slice none 0 0, .int .i64 2]) (by simp [results, Try.results12, go_sem, p0, p1, p2]) rfl ⟨_, _, none, rfl, Row.nil _ _ _, (fun _ h => by cases h), ?_⟩
    exact ((HQ1.out.2.2.2.2.setCell (by simp only; omega) _).setCell (by simp only; omega) _).setCell (by simp only; omega) _
  · have hr := node_rel self
    have C3 : Hid (∀ W, Calls Try.prog 29 #[.int .i64 self] W fun e w' => e = .returned (.bool true) ∧ W = w') := Lib.hid (fun W => by rw [← hn]; exact isNode_any self W)
    have C4 : Hid (∀ W, Calls Try.prog 30 #[.int .u8 s, .int .i64 self] W fun e w' => e = .returned (.bool false) ∧ W = w') := Lib.hid (fun W => by
      have h17 : 1 ≤ self ∧ self ≤ 7 := by rcases hr with ⟨_, h⟩ | ⟨h, h2, _⟩ | ⟨_, _, h⟩ <;> first | (rw [hn] at h; cases h) | exact ⟨h, h2⟩
      have := has_any s self.toNat W h8 (by omega) (by omega)
      rw [hb2] at this
      rwa [show ((self.toNat : Nat) : Int) = self by omega] at this)
    clear hr
    clear hn hb2
    go_enter Try.func12, Try.ntmps12
    go_wp2_with (first
      | (go_at_call 28; refine Calls.mono (C1.out _ (HS.out.below HQ.out.2.2.2.2)) ?_; rintro e W1 ⟨rfl, hW1⟩; have HQ1 := Lib.hid (HQ.out.step hW1); have p0 := cell_at HQ1.out.2.2.2.1 0; have p1 := cell_at HQ1.out.2.2.2.1 1; have p2 := cell_at HQ1.out.2.2.2.1 2; have g0 := free_at HQ1.out.2.2.2.1 0; have g1 := free_at HQ1.out.2.2.2.1 1; have g2 := free_at HQ1.out.2.2.2.1 2; have s0 := cell_at HQ1.out.2.2.1 0; have hl := HQ1.out.lt)
      | (go_at_call 29; refine (C3.out _).mono ?_; rintro e w' ⟨rfl, rfl⟩)
      | (go_at_call 30; refine (C4.out _).mono ?_; rintro e w' ⟨rfl, rfl⟩))
    refine bodyPost_ret (v := .tuple #[.agg #[.int .i64 0, .int .i64 0, .int .i64 0], .slice none 0 0, .int .i64 2]) (by simp [results, Try.results12, go_sem, p0, p1, p2]) rfl ⟨_, _, none, rfl, Row.nil _ _ _, (fun _ h => by cases h), ?_⟩
    exact ((HQ1.out.2.2.2.2.setCell (by simp only; omega) _).setCell (by simp only; omega) _).setCell (by simp only; omega) _

set_option maxRecDepth 100000 in
set_option maxHeartbeats 8000000 in
theorem rbegin_bad (ht hv hb base term self : Int) (a : Option Addr) (len cap b o : Nat) (E : Nat → Ent) (s : Nat) (w : World) (hs : EntsIn w a len cap b o E) (h8 : s < 256) (er : Int) (hh : (rowsB base term len E = false ∧ er = 90) ∨ (rowsB base term len E = true ∧ nodeB self = false ∧ er = 2) ∨ (rowsB base term len E = true ∧ nodeB self = true ∧ s.testBit (self.toNat - 1) = false ∧ er = 2)) :
    Calls Try.prog 13 #[.agg #[.int .i64 ht, .int .i64 hv, .int .i64 hb], .agg #[.int .i64 base, .int .i64 term, .slice a len cap], .int .u8 s, .int .i64 self] w (BegP w 0 0 0 0 [] er) := by
  obtain ⟨R, hR⟩ : ∃ R, R = rowsE base term len E := ⟨_, rfl⟩
  have C1 : Hid (∀ W, EntsIn W a len cap b o E → Calls Try.prog 24 #[.agg #[.int .i64 base, .int .i64 term, .slice a len cap]] W fun e w' => e = .returned (.int .i64 R) ∧ Below W.heap.size W w') := Lib.hid (fun W h => by rw [hR]; exact rcheck_any base term a len cap b o E W h)
  have HS := Lib.hid hs
  have HQ := Lib.hid (B3.mk0 w #[.int .i64 ht, .int .i64 hv, .int .i64 hb] #[.int .i64 base, .int .i64 term, .slice a len cap] #[.int .i64 0, .int .i64 0, .int .i64 0])
  have hcs : (R = 90 ∧ er = 90) ∨ (R = 0 ∧ nodeB self = false ∧ er = 2) ∨ (R = 0 ∧ nodeB self = true ∧ s.testBit (self.toNat - 1) = false ∧ er = 2) := by
    rcases hh with ⟨h, h2⟩ | ⟨h, h2, h3⟩ | ⟨h, h2, h3, h4⟩
    · exact .inl ⟨by rw [hR, rowsE_bad h], h2⟩
    · exact .inr (.inl ⟨by rw [hR, rowsE_ok h], h2, h3⟩)
    · exact .inr (.inr ⟨by rw [hR, rowsE_ok h], h2, h3, h4⟩)
  clear hs hR hh
  rcases hcs with ⟨rfl, rfl⟩ | ⟨rfl, hn, rfl⟩ | ⟨rfl, hn, hb2, rfl⟩
  · go_enter Try.func13, Try.ntmps13
    go_wp2_with (go_at_call 24; refine Calls.mono (C1.out _ (HS.out.below HQ.out.2.2.2)) ?_; rintro e W1 ⟨rfl, hW1⟩; have HQ1 := Lib.hid (HQ.out.step hW1); have p0 := cell_at HQ1.out.2.2.1 0; have p1 := cell_at HQ1.out.2.2.1 1; have p2 := cell_at HQ1.out.2.2.1 2; have g0 := free_at HQ1.out.2.2.1 0; have g1 := free_at HQ1.out.2.2.1 1; have g2 := free_at HQ1.out.2.2.1 2; have hl := HQ1.out.lt)
    refine bodyPost_ret (v := .tuple #[.agg #[.int .i64 0, .int .i64 0, .int .i64 0], .slice none 0 0, .int .i64 90]) (by simp [results, Try.results13, go_sem, p0, p1, p2]) rfl ⟨_, _, none, rfl, Row.nil _ _ _, (fun _ h => by cases h), ?_⟩
    exact ((HQ1.out.2.2.2.setCell (by simp only; omega) _).setCell (by simp only; omega) _).setCell (by simp only; omega) _
  · have C4 : Hid (∀ W, Calls Try.prog 33 #[.int .u8 s, .int .i64 self] W fun e w' => e = .returned (.bool false) ∧ W = w') := Lib.hid (fun W => rhas_out s self W hn)
    clear hn
    go_enter Try.func13, Try.ntmps13
    go_wp2_with (first
      | (go_at_call 24; refine Calls.mono (C1.out _ (HS.out.below HQ.out.2.2.2)) ?_; rintro e W1 ⟨rfl, hW1⟩; have HQ1 := Lib.hid (HQ.out.step hW1); have p0 := cell_at HQ1.out.2.2.1 0; have p1 := cell_at HQ1.out.2.2.1 1; have p2 := cell_at HQ1.out.2.2.1 2; have g0 := free_at HQ1.out.2.2.1 0; have g1 := free_at HQ1.out.2.2.1 1; have g2 := free_at HQ1.out.2.2.1 2; have hl := HQ1.out.lt)
      | (go_at_call 33; refine (C4.out _).mono ?_; rintro e w' ⟨rfl, rfl⟩))
    refine bodyPost_ret (v := .tuple #[.agg #[.int .i64 0, .int .i64 0, .int .i64 0], .slice none 0 0, .int .i64 2]) (by simp [results, Try.results13, go_sem, p0, p1, p2]) rfl ⟨_, _, none, rfl, Row.nil _ _ _, (fun _ h => by cases h), ?_⟩
    exact ((HQ1.out.2.2.2.setCell (by simp only; omega) _).setCell (by simp only; omega) _).setCell (by simp only; omega) _
  · have hr := node_rel self
    have C4 : Hid (∀ W, Calls Try.prog 33 #[.int .u8 s, .int .i64 self] W fun e w' => e = .returned (.bool false) ∧ W = w') := Lib.hid (fun W => by
      have h17 : 1 ≤ self ∧ self ≤ 7 := by rcases hr with ⟨_, h⟩ | ⟨h, h2, _⟩ | ⟨_, _, h⟩ <;> first | (rw [hn] at h; cases h) | exact ⟨h, h2⟩
      have := rhas_any s self.toNat W h8 (by omega) (by omega)
      rw [hb2] at this
      rwa [show ((self.toNat : Nat) : Int) = self by omega] at this)
    clear hr
    clear hn hb2
    go_enter Try.func13, Try.ntmps13
    go_wp2_with (first
      | (go_at_call 24; refine Calls.mono (C1.out _ (HS.out.below HQ.out.2.2.2)) ?_; rintro e W1 ⟨rfl, hW1⟩; have HQ1 := Lib.hid (HQ.out.step hW1); have p0 := cell_at HQ1.out.2.2.1 0; have p1 := cell_at HQ1.out.2.2.1 1; have p2 := cell_at HQ1.out.2.2.1 2; have g0 := free_at HQ1.out.2.2.1 0; have g1 := free_at HQ1.out.2.2.1 1; have g2 := free_at HQ1.out.2.2.1 2; have hl := HQ1.out.lt)
      | (go_at_call 33; refine (C4.out _).mono ?_; rintro e w' ⟨rfl, rfl⟩))
    refine bodyPost_ret (v := .tuple #[.agg #[.int .i64 0, .int .i64 0, .int .i64 0], .slice none 0 0, .int .i64 2]) (by simp [results, Try.results13, go_sem, p0, p1, p2]) rfl ⟨_, _, none, rfl, Row.nil _ _ _, (fun _ h => by cases h), ?_⟩
    exact ((HQ1.out.2.2.2.setCell (by simp only; omega) _).setCell (by simp only; omega) _).setCell (by simp only; omega) _

set_option maxRecDepth 100000 in
set_option maxHeartbeats 4000000 in
theorem same_ask (f dz t i l : Int) (w : World) : Calls Try.prog 17 #[.agg #[.int .i8 1, .int .i64 f, .int .i64 dz, .int .i64 t, .int .i64 i, .int .i64 l, .int .i64 0, .bool false, .slice none 0 0, .int .i64 0, .int .i64 0, .int .u8 0, .slice none 0 0, .slice none 0 0], .agg #[.int .i8 1, .int .i64 f, .int .i64 dz, .int .i64 t, .int .i64 i, .int .i64 l, .int .i64 0, .bool false, .slice none 0 0, .int .i64 0, .int .i64 0, .int .u8 0, .slice none 0 0, .slice none 0 0]] w fun e w' => e = .returned (.bool true) ∧ Below w.heap.size w w' := by
  have s1 := fun w => str_nil w
  go_enter Try.func17, Try.ntmps17
  go_wp2_with (first
    | (go_at_call 40; refine (sameEnts_nil _).mono ?_; rintro e w' ⟨rfl, rfl⟩)
    | (go_at_call 41; refine (sameSnap_nil _).mono ?_; rintro e w' ⟨rfl, rfl⟩))
  go_ret
  refine ⟨rfl, ?_⟩
  exact ((((Below.refl _ _).alloc (Nat.le_refl _) _).alloc (by simp) _).alloc (by simp; omega) _).alloc (by simp; omega) _
theorem ask_cells {w : World} {a : Option Addr} {n c : Nat} {ob : Option Nat} {M : Nat → MsgE} (h : Row w (.slice a n c) ob 40 14 n (msgL M n)) {k : Nat} (hk : k < n) : ∃ g, a = some ⟨g, 0, none⟩ ∧ g < w.heap.size ∧ ∀ j, j < 14 → w.cell? ⟨g, k * 14 + j, none⟩ = (M k).cells[j]? := by
  obtain ⟨g, rfl, _⟩ := h.cell 0 (by omega)
  obtain ⟨a', c', he, _, _, h3⟩ := h.shape
  injection he with e1 _ _
  subst e1
  refine ⟨g, h3, h.lt, fun j hj => ?_⟩
  obtain ⟨g', hg, hc, _⟩ := h.cell (k * 14 + j) (by omega)
  obtain rfl := Option.some.inj hg
  rw [hc, msgL_at M n k j hk hj]

set_option maxRecDepth 100000 in
set_option maxHeartbeats 8000000 in
theorem sameAsks_any (f t i l : Int) (D : Nat → Int) (n : Nat) (a : Option Addr) (c : Nat) (ob : Option Nat) (a' : Option Addr) (c' : Nat) (ob' : Option Nat) (w : World) (hn : n ≤ 7)
    (h1 : Row w (.slice a n c) ob 40 14 n (msgL (fun j => askM f t i l (D j)) n)) (h2 : Row w (.slice a' n c') ob' 40 14 n (msgL (fun j => askM f t i l (D j)) n)) :
    Calls Try.prog 14 #[.slice a n c, .slice a' n c'] w fun e w' => e = .returned (.bool true) ∧ Below w.heap.size w w' := by
  have H1 := Lib.hid (fun k hk => ask_cells h1 (k := k) hk)
  have H2 := Lib.hid (fun k hk => ask_cells h2 (k := k) hk)
  have hc1 : n ≤ c ∧ c ≤ maxLen := by obtain ⟨_, _, he, q1, q2, _⟩ := h1.shape; injection he with _ _ h3; subst h3; exact ⟨q1, q2⟩
  have hc2 : n ≤ c' ∧ c' ≤ maxLen := by obtain ⟨_, _, he, q1, q2, _⟩ := h2.shape; injection he with _ _ h3; subst h3; exact ⟨q1, q2⟩
  unfold maxLen at hc1 hc2
  obtain ⟨q1, q2⟩ := hc1
  obtain ⟨q3, q4⟩ := hc2
  clear h1 h2
  go_enter Try.func14, Try.ntmps14
  go_wp2_with fail
  go_loopw [5] (fun i wr => ∃ k : Nat, k ≤ n ∧ i = .int .i64 k ∧ Below w.heap.size w wr) (fun i _ => n - (intOf i).toNat)
  case atStart => exact ⟨0, Nat.zero_le _, rfl, Below.refl _ _⟩
  case round =>
    obtain ⟨k, hk, rfl, hbel⟩ := hrel
    by_cases hlt : k < n
    · obtain ⟨g, rfl, hg, hc⟩ := H1.out k hlt
      obtain ⟨g', rfl, hg', hc'⟩ := H2.out k hlt
      obtain ⟨dz, hdz⟩ : ∃ dz, dz = D k := ⟨_, rfl⟩
      have HM : ∀ j : Nat, (askM f t i l (D k)).cells[j]? = ([.int .i8 1, .int .i64 f, .int .i64 dz, .int .i64 t, .int .i64 i, .int .i64 l, .int .i64 0, .bool false, .slice none 0 0, .int .i64 0, .int .i64 0, .int .u8 0, .slice none 0 0, .slice none 0 0] : List Value)[j]? := fun j => by rw [hdz]; rfl
      have hcc : ∀ j, j < 14 → wr.cell? ⟨g, k * 14 + j, none⟩ = ([.int .i8 1, .int .i64 f, .int .i64 dz, .int .i64 t, .int .i64 i, .int .i64 l, .int .i64 0, .bool false, .slice none 0 0, .int .i64 0, .int .i64 0, .int .u8 0, .slice none 0 0, .slice none 0 0] : List Value)[j]? := fun j hj => by rw [← HM]; exact (hbel.cell (p := ⟨g, _, none⟩) hg).trans (hc j hj)
      have hcc' : ∀ j, j < 14 → wr.cell? ⟨g', k * 14 + j, none⟩ = ([.int .i8 1, .int .i64 f, .int .i64 dz, .int .i64 t, .int .i64 i, .int .i64 l, .int .i64 0, .bool false, .slice none 0 0, .int .i64 0, .int .i64 0, .int .u8 0, .slice none 0 0, .slice none 0 0] : List Value)[j]? := fun j hj => by rw [← HM]; exact (hbel.cell (p := ⟨g', _, none⟩) hg').trans (hc' j hj)
      have x0 : wr.cell? ⟨g, k * 14, none⟩ = some (.int .i8 1) := hcc 0 (by omega)
      have x1 : wr.cell? ⟨g, k * 14 + 1, none⟩ = some (.int .i64 f) := hcc 1 (by omega)
      have x2 : wr.cell? ⟨g, k * 14 + 2, none⟩ = some (.int .i64 dz) := hcc 2 (by omega)
      have x3 : wr.cell? ⟨g, k * 14 + 3, none⟩ = some (.int .i64 t) := hcc 3 (by omega)
      have x4 : wr.cell? ⟨g, k * 14 + 4, none⟩ = some (.int .i64 i) := hcc 4 (by omega)
      have x5 : wr.cell? ⟨g, k * 14 + 5, none⟩ = some (.int .i64 l) := hcc 5 (by omega)
      have x6 : wr.cell? ⟨g, k * 14 + 6, none⟩ = some (.int .i64 0) := hcc 6 (by omega)
      have x7 : wr.cell? ⟨g, k * 14 + 7, none⟩ = some (.bool false) := hcc 7 (by omega)
      have x8 : wr.cell? ⟨g, k * 14 + 8, none⟩ = some (.slice none 0 0) := hcc 8 (by omega)
      have x9 : wr.cell? ⟨g, k * 14 + 9, none⟩ = some (.int .i64 0) := hcc 9 (by omega)
      have x10 : wr.cell? ⟨g, k * 14 + 10, none⟩ = some (.int .i64 0) := hcc 10 (by omega)
      have x11 : wr.cell? ⟨g, k * 14 + 11, none⟩ = some (.int .u8 0) := hcc 11 (by omega)
      have x12 : wr.cell? ⟨g, k * 14 + 12, none⟩ = some (.slice none 0 0) := hcc 12 (by omega)
      have x13 : wr.cell? ⟨g, k * 14 + 13, none⟩ = some (.slice none 0 0) := hcc 13 (by omega)
      have y0 : wr.cell? ⟨g', k * 14, none⟩ = some (.int .i8 1) := hcc' 0 (by omega)
      have y1 : wr.cell? ⟨g', k * 14 + 1, none⟩ = some (.int .i64 f) := hcc' 1 (by omega)
      have y2 : wr.cell? ⟨g', k * 14 + 2, none⟩ = some (.int .i64 dz) := hcc' 2 (by omega)
      have y3 : wr.cell? ⟨g', k * 14 + 3, none⟩ = some (.int .i64 t) := hcc' 3 (by omega)
      have y4 : wr.cell? ⟨g', k * 14 + 4, none⟩ = some (.int .i64 i) := hcc' 4 (by omega)
      have y5 : wr.cell? ⟨g', k * 14 + 5, none⟩ = some (.int .i64 l) := hcc' 5 (by omega)
      have y6 : wr.cell? ⟨g', k * 14 + 6, none⟩ = some (.int .i64 0) := hcc' 6 (by omega)
      have y7 : wr.cell? ⟨g', k * 14 + 7, none⟩ = some (.bool false) := hcc' 7 (by omega)
      have y8 : wr.cell? ⟨g', k * 14 + 8, none⟩ = some (.slice none 0 0) := hcc' 8 (by omega)
      have y9 : wr.cell? ⟨g', k * 14 + 9, none⟩ = some (.int .i64 0) := hcc' 9 (by omega)
      have y10 : wr.cell? ⟨g', k * 14 + 10, none⟩ = some (.int .i64 0) := hcc' 10 (by omega)
      have y11 : wr.cell? ⟨g', k * 14 + 11, none⟩ = some (.int .u8 0) := hcc' 11 (by omega)
      have y12 : wr.cell? ⟨g', k * 14 + 12, none⟩ = some (.slice none 0 0) := hcc' 12 (by omega)
      have y13 : wr.cell? ⟨g', k * 14 + 13, none⟩ = some (.slice none 0 0) := hcc' 13 (by omega)
      have HB := Lib.hid hbel
      clear hc hc' HM hcc hcc' hdz hbel
      go_wp2_with fail
      go_still_tail 8, (by kernel_rfl)
      change wpList _ _ _ _ _ wr.drew
      go_wp2_with (go_at_call 17; refine (same_ask _ _ _ _ _ _).mono ?_; rintro e W2 ⟨rfl, hW2⟩)
      go_roundw
      case rel => exact ⟨k + 1, by omega, by go_num, HB.out.trans ((below_undrew hW2).mono HB.out.size)⟩
      case measure => simp [intOf]; omega
    · obtain rfl : k = n := by omega
      go_wp2_with fail
      go_ret
      exact ⟨rfl, hbel⟩
end Go.Proofs.Ytidheicmaodfgaa
