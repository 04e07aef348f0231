/-
  packet.Build refused; packet.Parse.
-/
import Derived.Deep.RegionHeld3
import Derived.Test.YtcimcmfibinehaaPka
namespace Go.Proofs.Ytcimcmfibinehaa
open Go.RowKit
set_option linter.unusedSimpArgs false
set_option linter.unusedVariables false

theorem Holds.step {A B : World} {n : Nat} {c : Array Value} (h : Holds A n c) (hB : Below A.heap.size A B) : Holds B n c :=
  ⟨fun j => (hB.cell (p := ⟨n, j, none⟩) h.2.2).trans (h.1 j), fun j => (hB.frozen (p := ⟨n, j, none⟩) h.2.2).trans (h.2.1 j), by have := hB.size; have := h.2.2; omega⟩
theorem cell_congr {A B : World} {b : Nat} (h : B.heap[b]? = A.heap[b]?) (o : Nat) : B.cell? ⟨b, o, none⟩ = A.cell? ⟨b, o, none⟩ := by
  unfold World.cell?
  simp only [h]
theorem ByIn.ne {W : World} {a : Option Addr} {len cap b o : Nat} {X : Nat → Nat} (h : ByIn W a len cap b o X) (p : Addr) (hp : 0 < len → b ≠ p.block) (u : Value) : ByIn (W.setCell p u) a len cap b o X :=
  ⟨h.le, h.max, fun hk => ⟨(h.at_ hk).1, by have := (h.at_ hk).2; simpa using this⟩, fun k hk => (cell_congr (heap_setCell_ne _ _ _ _ (hp (by omega))) _).trans (h.cell k hk), h.bd⟩
theorem build_arg (num t c : Int) (a : Option Addr) (n ca : Nat) (w : World) (h : t < 1 ∨ 16 < t ∨ c < 0 ∨ 255 < c) (hn : n ≤ 9223372036854775807) :
    Calls Try.prog 27 #[.agg #[.int .i64 num, .int .i64 t, .int .i64 c, .slice a n ca]] w fun e w' => e = .returned (.tuple #[.slice none 0 0, .int .i64 2]) ∧ Below w.heap.size w w' := by
  by_cases h1 : t < 1
  · have d1 : decide (t < 1) = true := by simpa using h1
    clear h
    go_enter Try.func27, Try.ntmps27
    go_wp2_with fail
    go_ret2
    exact ⟨rfl, (Below.refl _ _).alloc (Nat.le_refl _) _⟩
  · have d1 : decide (t < 1) = false := by simpa using h1
    by_cases h2 : 16 < t
    · have d2 : decide (16 < t) = true := by simpa using h2
      clear h
      go_enter Try.func27, Try.ntmps27
      go_wp2_with fail
      go_ret2
      exact ⟨rfl, (Below.refl _ _).alloc (Nat.le_refl _) _⟩
    · have d2 : decide (16 < t) = false := by simpa using h2
      by_cases h3 : c < 0
      · have d3 : decide (c < 0) = true := by simpa using h3
        clear h
        go_enter Try.func27, Try.ntmps27
        go_wp2_with fail
        go_ret2
        exact ⟨rfl, (Below.refl _ _).alloc (Nat.le_refl _) _⟩
      · have d3 : decide (c < 0) = false := by simpa using h3
        have h4 : 255 < c := by omega
        have d4 : decide (255 < c) = true := by simpa using h4
        clear h
        go_enter Try.func27, Try.ntmps27
        go_wp2_with fail
        go_ret2
        exact ⟨rfl, (Below.refl _ _).alloc (Nat.le_refl _) _⟩

theorem build_long (num t c : Int) (a : Option Addr) (n ca : Nat) (w : World) (h : 1 ≤ t ∧ t ≤ 16 ∧ 0 ≤ c ∧ c ≤ 255) (hn : n ≤ 9223372036854775807) (hl : 1492 < n) :
    Calls Try.prog 27 #[.agg #[.int .i64 num, .int .i64 t, .int .i64 c, .slice a n ca]] w fun e w' => e = .returned (.tuple #[.slice none 0 0, .int .i64 3]) ∧ Below w.heap.size w w' := by
  obtain ⟨t1, t2, c1, c2⟩ := h
  have d1 : decide (t < 1) = false := by simp; omega
  have d2 : decide ((16 : Int) < t) = false := by simp; omega
  have d3 : decide (c < 0) = false := by simp; omega
  have d4 : decide ((255 : Int) < c) = false := by simp; omega
  have d5 : decide ((1492 : Int) < n) = true := by simp; omega
  go_enter Try.func27, Try.ntmps27
  go_wp2_with fail
  go_ret2
  exact ⟨rfl, (Below.refl _ _).alloc (Nat.le_refl _) _⟩

theorem fix_bd {Z : Nat → Nat} {S : Nat} (hZ : ∀ j, Z j < 256) (hS : S ≤ 65535) (j : Nat) : fixB Z S j < 256 := by
  unfold fixB
  split
  · omega
  · split
    · omega
    · exact hZ j
theorem head_bd {t c n : Nat} {X : Nat → Nat} (ht : t < 256) (hc : c < 256) (hn : n < 65536) (hX : ∀ j, X j < 256) (j : Nat) : putB (headB t c n) 8 X j < 256 := by
  unfold putB
  split
  · unfold headB
    repeat' split
    all_goals omega
  · exact hX _
/-- what a packet's bytes would be, by the bytes that stand there -/
def againB (X : Nat → Nat) (n : Nat) : Nat → Nat := fixB (putB (headB (X 1) (X 2) (n - 8)) 8 fun j => X (8 + j)) (65535 - sumN16 (putB (headB (X 1) (X 2) (n - 8)) 8 fun j => X (8 + j)) n)
def parseOk (X : Nat → Nat) (n : Nat) : Bool := decide (8 ≤ n ∧ n ≤ 1500) && (decide (1 ≤ X 1 ∧ X 1 ≤ 16) && eqB (againB X n) X n)
def ParseP (w : World) (n : Nat) (X : Nat → Nat) (e : Ending) (w' : World) : Prop :=
  Below w.heap.size w w' ∧ ((parseOk X n = false ∧ e = .returned (.tuple #[.agg #[.int .i64 0, .int .i64 0, .int .i64 0, .slice none 0 0], .int .i64 230])) ∨
    (parseOk X n = true ∧ ∃ a' c' b', e = .returned (.tuple #[.agg #[.int .i64 0, .int .i64 (X 1 : Nat), .int .i64 (X 2 : Nat), .slice a' ((n - 8 : Nat)) c'], .int .i64 0]) ∧ ByIn w' a' (n - 8) c' b' 0 (fun j => X (8 + j)) ∧ (0 < n - 8 → w.heap.size ≤ b')))

set_option maxRecDepth 100000 in
set_option maxHeartbeats 8000000 in
theorem parse_short (a : Option Addr) (n ca : Nat) (X : Nat → Nat) (w : World) (hn : n ≤ 9223372036854775807) (h : n < 8 ∨ 1500 < n) : Calls Try.prog 14 #[.slice a n ca] w (ParseP w n X) := by
  have HP : Hid (parseOk X n = false) := Lib.hid (by unfold parseOk; rw [decide_eq_false (by omega)]; rfl)
  have H0 : Hid (∀ (W : World), Below w.heap.size w W → ParseP w n X (.returned (.tuple #[.agg #[.int .i64 0, .int .i64 0, .int .i64 0, .slice none 0 0], .int .i64 230])) W) := Lib.hid (fun W hB => ⟨hB, .inl ⟨HP.out, rfl⟩⟩)
  by_cases h1 : n < 8
  · have d1 : decide ((n : Int) < 8) = true := by simp; omega
    clear h
    go_enter Try.func14, Try.ntmps14
    go_wp2_with fail
    exact bodyPost_ret (v := .tuple #[.agg #[.int .i64 0, .int .i64 0, .int .i64 0, .slice none 0 0], .int .i64 230]) (by simp [results, Try.results14, go_sem]) rfl (H0.out _ ((Below.refl _ _).alloc (Nat.le_refl _) _))
  · have d1 : decide ((n : Int) < 8) = false := by simp; omega
    have d2 : decide ((1500 : Int) < n) = true := by simp; omega
    clear h
    go_enter Try.func14, Try.ntmps14
    go_wp2_with fail
    exact bodyPost_ret (v := .tuple #[.agg #[.int .i64 0, .int .i64 0, .int .i64 0, .slice none 0 0], .int .i64 230]) (by simp [results, Try.results14, go_sem]) rfl (H0.out _ ((Below.refl _ _).alloc (Nat.le_refl _) _))
end Go.Proofs.Ytcimcmfibinehaa
