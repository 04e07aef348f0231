/-
  Rows of ints; two commands that are the same; spending, in every case; one lease that is spent.
-/
import Derived.Test.YtlgjdiadohhleaaAgc
import Derived.Test.YtlgjdiadohhleaaAgf
import Derived.OwnWalk
namespace Go.Proofs.Ytlgjdiadohhleaa
open Go.RowKit
set_option linter.unusedSimpArgs false
set_option linter.unusedVariables false

structure IntsIn (W : World) (a : Option Addr) (len cap : Nat) (b o : Nat) (T : Nat → Int) : Prop where
  le : len ≤ cap
  max : cap ≤ maxLen
  at_ : 0 < len → a = some ⟨b, o, none⟩ ∧ b < W.heap.size
  cell : ∀ k, k < len → W.cell? ⟨b, o + k, none⟩ = some (.int .i64 (T k))
  bd : ∀ k, k < len → -9223372036854775808 ≤ T k ∧ T k ≤ 9223372036854775807

theorem ints_cells (W : World) {a : Option Addr} {len cap : Nat} {xs : List Dt} (h : SliceFits Try.prog W 3 a len cap xs) : ∃ (b o : Nat) (T : Nat → Int), IntsIn W a len cap b o T := by
  have hc : Try.prog.cellsOf 3 = 1 := by kernel_rfl
  obtain ⟨b, o, h1, h2⟩ := h.spot (by rw [hc]; omega)
  have hex : ∀ k, ∃ q : Int, k < len → W.cell? ⟨b, o + k, none⟩ = some (.int .i64 q) ∧ -9223372036854775808 ≤ q ∧ q ≤ 9223372036854775807 := fun k => by
    by_cases hk : k < len
    · have hl := h.length
      have hx := List.getElem?_eq_getElem (l := xs) (i := k) (by omega)
      obtain ⟨n0, e0, g0⟩ := (h.each k _ hx).1.int_inv Try.underlying3
      have hcell := h2 k _ hx
      rw [e0, hc] at hcell
      exact ⟨n0, fun _ => ⟨by have := hcell 0 _ rfl; rwa [Nat.mul_one] at this, g0.1, g0.2⟩⟩
    · exact ⟨0, fun h => absurd h hk⟩
  have hg := fun k => Classical.choose_spec (hex k)
  exact ⟨b, o, fun k => Classical.choose (hex k), h.le, h.max, h1, fun k hk => (hg k hk).1, fun k hk => (hg k hk).2⟩

theorem IntsIn.below {W W' : World} {a : Option Addr} {len cap b o : Nat} {T : Nat → Int} (h : IntsIn W a len cap b o T) (hB : Below W.heap.size W W') : IntsIn W' a len cap b o T :=
  ⟨h.le, h.max, fun hk => ⟨(h.at_ hk).1, by have := (h.at_ hk).2; have := hB.size; omega⟩, fun k hk => (hB.cell (p := ⟨b, _, none⟩) (h.at_ (by omega)).2).trans (h.cell k hk), h.bd⟩


set_option maxRecDepth 100000 in
set_option maxHeartbeats 8000000 in
theorem command_same (nu te sh ep le sz sp : Int) (w : World) :
    Calls Try.prog 25 #[.agg #[.int .i8 4, .int .i64 0, .int .i64 nu, .int .i64 te, .int .i64 0, .int .i64 0, .int .i64 sh, .int .i64 ep, .int .i64 le, .int .i64 sz, .int .i64 sp, .bool false, .slice none 0 0], .agg #[.int .i8 4, .int .i64 0, .int .i64 nu, .int .i64 te, .int .i64 0, .int .i64 0, .int .i64 sh, .int .i64 ep, .int .i64 le, .int .i64 sz, .int .i64 sp, .bool false, .slice none 0 0]] w fun e w' => e = .returned (.bool true) ∧ Below w.heap.size w w' := by
  go_enter Try.func25, Try.ntmps25
  go_wp2_with fail
  go_ret
  exact ⟨rfl, ((Below.refl _ _).alloc (Nat.le_refl _) _).alloc (by simp) _⟩

def spE (n T : Int) : Int := if n < 0 then 2 else if T < n then 170 else 0
def Hd.spX (H : Hd) (n T : Int) : Hd := if 0 ≤ n ∧ n ≤ T then H.spend n else H
theorem spend_all (g : Nat) (s : Ag) (H : Hd) (te n t : Int) (w : World) (h : AgAt w g s H) (hok : H.ok) (hte : (H.tick s t).of_ te) :
    Calls Try.prog 18 #[.pointer (some ⟨g, 0, none⟩), .int .i64 te, .int .i64 n, .int .i64 t] w fun e w' => e = .returned (.int .i64 (spE n ((H.tick s t).tok te))) ∧ AgAt w' g (s.tick t) ((H.tick s t).spX n ((H.tick s t).tok te)) ∧ Fr (g :: H.bl) w w' := by
  unfold spE Hd.spX
  by_cases h1 : n < 0
  · have := spend_bad g s H te n t w h hok (.inl h1)
    rw [if_pos h1] at this
    rw [if_pos h1, if_neg (by omega)]
    exact this
  · rw [if_neg h1]
    by_cases h2 : (H.tick s t).tok te < n
    · have := spend_bad g s H te n t w h hok (.inr ⟨by omega, h2⟩)
      rw [if_neg h1] at this
      rw [if_pos h2, if_neg (by omega)]
      exact this
    · rw [if_neg h2, if_pos ⟨by omega, by omega⟩]
      exact spend_ok g s H te n t w h hok (by omega) (by omega) hte
theorem tick_tick (s : Ag) (t : Int) : (s.tick t).tick t = s.tick t := by
  unfold Ag.tick
  simp only [Ag.mk.injEq, true_and, and_true]
  omega
theorem Hd.tick_tick (H : Hd) (s : Ag) (t : Int) : (H.tick s t).tick (s.tick t) t = H.tick s t := by
  cases H with
  | gone a c => rfl
  | one b c x =>
    unfold Hd.tick
    have e : max (s.tick t).now t = max s.now t := by show max (max s.now t) t = _; omega
    rw [e]
    by_cases h : max s.now t < x.un
    · rw [keep_pos _ (decide_eq_true h), keep_pos _ (decide_eq_true h)]
    · rw [keep_neg _ (decide_eq_false h)]; rfl
theorem Hd.spend_bl (H : Hd) (n T : Int) : ∀ y ∈ (H.spX n T).bl, y ∈ H.bl := by
  unfold Hd.spX
  intro y hy
  split at hy
  · cases H with
    | gone a c => exact hy
    | one b c x => exact hy
  · exact hy

/-- how one lease stands of which sum was spent: te: whose, OV: its end -/
def Hd.st (H : Hd) (F : Nat) (te SZ OV sum re : Int) : Prop := match H with
  | .gone _ _ => True
  | .one b _ x => x.te = te ∧ x.le = SZ - sum ∧ x.sp = sum ∧ x.un = OV ∧ x.re = re ∧ F ≤ b
theorem Hd.st.ok {H : Hd} {F : Nat} {te SZ OV sum re : Int} (h : H.st F te SZ OV sum re) (h0 : 0 ≤ re) (h1 : re ≤ sum) (h2 : sum ≤ SZ) (h3 : SZ ≤ 1000000) : H.ok := by
  cases H with
  | gone a c => trivial
  | one b c x => obtain ⟨_, h4, h5, _, h6, _⟩ := h; exact ⟨by omega, by omega, by omega, by omega, by omega⟩
theorem Hd.st.tick {H : Hd} {F : Nat} {te SZ OV sum re : Int} (h : H.st F te SZ OV sum re) (s : Ag) (t : Int) : (H.tick s t).st F te SZ OV sum re ∧ (H.tick s t).of_ te := by
  cases H with
  | gone a c => exact ⟨trivial, trivial⟩
  | one b c x =>
    unfold Hd.tick
    by_cases hh : max s.now t < x.un
    · rw [keep_pos _ (decide_eq_true hh)]
      exact ⟨h, h.1⟩
    · rw [keep_neg _ (decide_eq_false hh)]
      exact ⟨trivial, trivial⟩
theorem Hd.st.tok {H : Hd} {F : Nat} {te SZ OV sum re : Int} (h : H.st F te SZ OV sum re) (h0 : sum ≤ SZ) (s : Ag) (t : Int) (hs : s.now ≤ t) : 0 ≤ (H.tick s t).tok te ∧ (H.tick s t).tok te ≤ SZ - sum ∧ (OV ≤ t → (H.tick s t).tok te = 0) := by
  cases H with
  | gone a c => exact ⟨Int.le_refl _, by show (0 : Int) ≤ _; omega, fun _ => rfl⟩
  | one b c x =>
    obtain ⟨h1, h2, h3, h4, h5, h6⟩ := h
    unfold Hd.tick
    by_cases hh : max s.now t < x.un
    · rw [keep_pos _ (decide_eq_true hh)]
      have : Hd.tok (.one b c x) te = x.le := if_pos h1
      rw [this]
      exact ⟨by omega, by omega, fun _ => by omega⟩
    · rw [keep_neg _ (decide_eq_false hh)]
      exact ⟨Int.le_refl _, by show (0 : Int) ≤ _; omega, fun _ => rfl⟩
theorem Hd.st.spX {H : Hd} {F : Nat} {te SZ OV sum re n T : Int} (h : H.st F te SZ OV sum re) : (0 ≤ n ∧ n ≤ T → (H.spX n T).st F te SZ OV (sum + n) re) ∧ (¬ (0 ≤ n ∧ n ≤ T) → (H.spX n T).st F te SZ OV sum re) := by
  constructor
  · intro hn
    unfold Hd.spX
    rw [if_pos hn]
    cases H with
    | gone a c => trivial
    | one b c x =>
      obtain ⟨h1, h2, h3, h4, h5, h6⟩ := h
      exact ⟨h1, by show x.le - n = _; omega, by show x.sp + n = _; omega, h4, h5, h6⟩
  · intro hn
    unfold Hd.spX
    rw [if_neg hn]
    exact h
theorem Hd.st.bl {H : Hd} {F : Nat} {te SZ OV sum re : Int} (h : H.st F te SZ OV sum re) : ∀ y ∈ H.bl, F ≤ y := by
  intro y hy
  cases H with
  | gone a c => simp [Hd.bl] at hy
  | one b c x => simp [Hd.bl] at hy; subst hy; exact h.2.2.2.2.2
end Go.Proofs.Ytlgjdiadohhleaa
