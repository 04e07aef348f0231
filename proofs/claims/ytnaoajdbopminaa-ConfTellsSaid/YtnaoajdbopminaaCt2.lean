/-
  ConfTells, walked.
-/
import Derived.Test.YtnaoajdbopminaaCt
import Derived.Sort.CutIn
import Derived.Sort.LoopGhostIn
import Derived.StillTailTactics
namespace Go.Proofs.Ytnaoajdbopminaa
open Go.RowKit Go.Shelf
set_option linter.unusedSimpArgs false
set_option linter.unusedVariables false

attribute [local go_sem] Oper.semAt_some

theorem stillQ {P : Program} {f : FuncId} {args : Array Value} {w : World} {v : Value} (h : Calls P f args w fun e w' => e = .returned v ∧ w = w') : Calls P f args w fun e w'' => e = .returned v ∧ w'' = w :=
  h.mono fun _ _ ⟨he, hm⟩ => ⟨he, hm.symm⟩

theorem below_undrew' {w X : World} (h : Below w.drew.heap.size w.drew X) : Below w.heap.size w X := ⟨h.os, h.tape, h.output, h.size, h.block⟩
def lastN (l : List Nd) : Nat := match l.getLast? with | none => 0 | some x => x.1
theorem lastN_snoc (l : List Nd) (x : Nd) : lastN (l ++ [x]) = x.1 := by simp [lastN]
theorem lastN_le (l : List Nd) : lastN l ≤ 7 := by
  unfold lastN
  cases h : l.getLast? with
  | none => simp
  | some x => exact x.2.2
/-- nodes that are no set's members, in order, from the first one on -/
def BadL (s : Int) (l : List Nd) : Prop := ∃ pre x, l = pre ++ [x] ∧ ((∃ j : Nat, lastN pre < j ∧ j < x.1 ∧ hasI s (j : Nat) = true) ∨ hasI s (x.1 : Nat) = false ∨ 7 < l.length)
theorem mems_last (s : Int) : ∀ k (l : List Nd), l.map (·.1) = mems s k → lastN l ≤ k ∧ ∀ j : Nat, lastN l < j → j ≤ k → hasI s (j : Nat) = false
  | 0, l, h => by
    have : l = [] := List.map_eq_nil_iff.1 h
    subst this
    exact ⟨by simp [lastN], fun j h1 h2 => by simp [lastN] at h1; omega⟩
  | k + 1, l, h => by
    unfold mems at h
    cases hk : hasI s ((k + 1 : Nat) : Int)
    · rw [hk] at h
      simp only [Bool.false_eq_true, if_false, List.append_nil] at h
      obtain ⟨h1, h2⟩ := mems_last s k l h
      refine ⟨by omega, fun j h3 h4 => ?_⟩
      by_cases e : j = k + 1
      · rw [e]; exact hk
      · exact h2 j h3 (by omega)
    · rw [hk] at h
      simp only [if_true] at h
      rcases List.eq_nil_or_concat l with e | ⟨l', x, e⟩
      · rw [e] at h; simp at h
      · subst e
        rw [List.concat_eq_append, List.map_append] at h
        have h3 := List.append_inj_right' h (by simp)
        have hx : x.1 = k + 1 := by simpa using h3
        rw [List.concat_eq_append, lastN_snoc, hx]
        exact ⟨Nat.le_refl _, fun j h4 h5 => by omega⟩
theorem mems_good (s : Int) : ∀ k, k ≤ 7 → ∀ (l : List Nd), l.map (·.1) = mems s k → ¬ BadL s l
  | 0, _, l, h => by
    have : l = [] := List.map_eq_nil_iff.1 h
    subst this
    rintro ⟨pre, x, e, _⟩
    simp at e
  | k + 1, hk7, l, h => by
    unfold mems at h
    cases hk : hasI s ((k + 1 : Nat) : Int)
    · rw [hk] at h
      simp only [Bool.false_eq_true, if_false, List.append_nil] at h
      exact mems_good s k (by omega) l h
    · have hlen : l.length ≤ k + 1 := by
        have h1 := congrArg List.length h
        have h2 := mems_len s (k + 1)
        unfold mems at h2
        simp only [List.length_map] at h1
        omega
      rw [hk] at h
      simp only [if_true] at h
      rintro ⟨pre, x, rfl, hb⟩
      rw [List.map_append] at h
      have h3 := List.append_inj_right' h (by simp)
      have h4 := List.append_inj_left' h (by simp)
      have hx : x.1 = k + 1 := by simpa using h3
      obtain ⟨g1, g2⟩ := mems_last s k pre h4
      rcases hb with ⟨j, j1, j2, j3⟩ | hb | hb
      · rw [g2 j j1 (by omega)] at j3; cases j3
      · rw [hx, hk] at hb; cases hb
      · omega
theorem mems_cnt (s : Int) : ∀ k, ((mems s k).length : Int) = cntI s k
  | 0 => by simp [mems, cntI]
  | k + 1 => by
    have := mems_cnt s k
    simp only [mems, cntI, List.length_append]
    cases hasI s ((k + 1 : Nat) : Int) <;> simp <;> omega

/-- how it stands ahead of a node -/
def IT (a leave : Int) (N : Nat) (w : World) (pre : List Nd) (W : World) : Prop :=
  Boxed W N 5 (.int .u8 a) ∧ (Boxed W (N + 1) 3 (.int .i64 leave) ∧ (Boxed W (N + 2) 4 (.bool false) ∧ (Boxed W (N + 3) 3 (.int .i64 (pre.length : Nat)) ∧ (Boxed W (N + 4) 3 (.int .i64 (lastN pre : Nat)) ∧ Below N w W))))
def XT (a leave : Int) (N : Nat) (w : World) (c : Code) (pre : List Nd) (W : World) : Prop := (c = .ret ∧ BadL a pre) ∨ (c = .exit 0 ∧ (pre.length : Int) = leave ∧ IT a leave N w pre W)
theorem IT.own {a leave : Int} {N B : Nat} {w : World} (h : N ≤ w.heap.size) (hB : N ≤ B) : OwnFrom B (IT a leave N w) :=
  OwnFrom.and (Own.from (boxed_own _ _ _) _) (OwnFrom.and (Own.from (boxed_own _ _ _) _) (OwnFrom.and (Own.from (boxed_own _ _ _) _) (OwnFrom.and (Own.from (boxed_own _ _ _) _) (OwnFrom.and (Own.from (boxed_own _ _ _) _) (ownFrom_below h hB)))))
theorem XT.own {a leave : Int} {N B : Nat} {w : World} (h : N ≤ w.heap.size) (hB : N ≤ B) (c : Code) : OwnFrom B (XT a leave N w c) := fun s W W' row hs hg hr =>
  hs.elim (fun k => .inl k) (fun k => .inr ⟨k.1, k.2.1, IT.own h hB s W W' row k.2.2 hg hr⟩)
/-- how it stands between two nodes -/
def LR (a leave : Int) (N : Nat) (w W : World) (pre : List Nd) (X g : Nat) (wr : World) : Prop := ∃ j : Nat, g + j = 8 ∧ lastN pre ≤ j ∧ (j = lastN pre ∨ j + 1 ≤ X) ∧ (∀ i : Nat, lastN pre < i → i ≤ j → hasI a (i : Nat) = false) ∧
  Boxed wr N 5 (.int .u8 a) ∧ Boxed wr (N + 1) 3 (.int .i64 leave) ∧ Boxed wr (N + 2) 4 (.bool false) ∧ Boxed wr (N + 3) 3 (.int .i64 (pre.length : Nat)) ∧ Boxed wr (N + 4) 3 (.int .i64 (j : Nat)) ∧
  wr.heap[N + 5]? = W.heap[N + 5]? ∧ KeepsOthers W wr ∧ Below N W wr

set_option maxRecDepth 100000 in
set_option maxHeartbeats 4000000 in
theorem confTells_any (a b node leave : Int) (h0 : 0 ≤ a) (h1 : a ≤ 255) (k0 : 0 ≤ b) (k1 : b ≤ 255) (w : World) :
    Calls Try.prog 5 #[.int .u8 a, .int .u8 b, .int .i64 node, .int .i64 leave] w fun e w' => e = .returned (.bool true) ∧ Below w.heap.size w w' := by
  refine (callsIn_wide (n := 9)).1 ?_
  have hnf : ∀ (fn : Fn) (first cap : Array Value) (w : World), (binOp .eql 52 (.func fn first cap) .nilFunc).run Try.prog w = .ok (.bool false) w := fun _ _ _ _ => rfl
  refine callsIn_of_wp_marks Try.func5 rfl trivial ?_ rfl
  simp only [Try.ntmps5, List.size_toArray, List.length_cons, List.length_nil, Nat.reduceAdd, Nat.reduceSub, Array.replicate_succ, Array.replicate_zero, List.push_toArray, List.append_toArray, List.nil_append, List.cons_append]
  gi_wp2_with (first
    | (refine ⟨trivial, ?_⟩; gi_at_call 27; refine (callsIn_wide.2 (members_any _ _)).mono ?_; rintro e w2 ⟨rfl, rfl⟩)
    | fail)
  obtain ⟨N, hN⟩ : ∃ N, N = w.heap.size := ⟨_, rfl⟩
  rw [← hN]
  obtain ⟨W0, hW0⟩ : ∃ W0, W0 = ((((((w.alloc (.cells #[.int .u8 a] 5)).alloc (.cells #[.int .i64 leave] 3)).alloc (.cells #[.bool false] 4)).alloc (.cells #[.int .i64 0] 3)).alloc (.cells #[.int .i64 0] 3)).alloc (.cells #[.int .u8 a] 5)) := ⟨_, rfl⟩
  have hs0 : W0.heap.size = N + 6 := by rw [hW0, hN]; simp
  have bA : Boxed W0 N 5 (.int .u8 a) := by
    rw [hW0, hN]
    show _ = _
    rw [Below.heap_alloc _ _ _ (by simp; try omega), Below.heap_alloc _ _ _ (by simp; try omega), Below.heap_alloc _ _ _ (by simp; try omega), Below.heap_alloc _ _ _ (by simp; try omega), Below.heap_alloc _ _ _ (by simp; try omega)]
    exact heap_alloc_new w _
  have bL : Boxed W0 (N + 1) 3 (.int .i64 leave) := by
    rw [hW0, hN]
    show _ = _
    rw [Below.heap_alloc _ _ _ (by simp; try omega), Below.heap_alloc _ _ _ (by simp; try omega), Below.heap_alloc _ _ _ (by simp; try omega), Below.heap_alloc _ _ _ (by simp; try omega), ← World.size_alloc w (.cells #[.int .u8 a] 5)]
    exact heap_alloc_new _ _
  have bR : Boxed W0 (N + 2) 4 (.bool false) := by
    rw [hW0, hN]
    show _ = _
    rw [Below.heap_alloc _ _ _ (by simp; try omega), Below.heap_alloc _ _ _ (by simp; try omega), Below.heap_alloc _ _ _ (by simp; try omega), show w.heap.size + 2 = ((w.alloc (.cells #[.int .u8 a] 5)).alloc (.cells #[.int .i64 leave] 3)).heap.size by simp]
    exact heap_alloc_new _ _
  have bN : Boxed W0 (N + 3) 3 (.int .i64 0) := by
    rw [hW0, hN]
    show _ = _
    rw [Below.heap_alloc _ _ _ (by simp; try omega), Below.heap_alloc _ _ _ (by simp; try omega), show w.heap.size + 3 = (((w.alloc (.cells #[.int .u8 a] 5)).alloc (.cells #[.int .i64 leave] 3)).alloc (.cells #[.bool false] 4)).heap.size by simp]
    exact heap_alloc_new _ _
  have bK : Boxed W0 (N + 4) 3 (.int .i64 0) := by
    rw [hW0, hN]
    show _ = _
    rw [Below.heap_alloc _ _ _ (by simp; try omega), show w.heap.size + 4 = ((((w.alloc (.cells #[.int .u8 a] 5)).alloc (.cells #[.int .i64 leave] 3)).alloc (.cells #[.bool false] 4)).alloc (.cells #[.int .i64 0] 3)).heap.size by simp]
    exact heap_alloc_new _ _
  have bM : Boxed W0 (N + 5) 5 (.int .u8 a) := by
    rw [hW0, hN]
    show _ = _
    rw [show w.heap.size + 5 = (((((w.alloc (.cells #[.int .u8 a] 5)).alloc (.cells #[.int .i64 leave] 3)).alloc (.cells #[.bool false] 4)).alloc (.cells #[.int .i64 0] 3)).alloc (.cells #[.int .i64 0] 3)).heap.size by simp]
    exact heap_alloc_new _ _
  have hB0 : Below N w W0 := by rw [hW0, hN]; exact ((((((Below.refl _ _).alloc (Nat.le_refl _) _).alloc (by simp) _).alloc (by simp; omega) _).alloc (by simp; omega) _).alloc (by simp; omega) _).alloc (by simp; omega) _
  rw [← hW0]
  have HN := Lib.hid hN
  have hNw : N ≤ w.heap.size := by omega
  clear hN hW0
  refine wpIn_rangeFunc_ownF rfl (by omega) (gf := 67) (lb := #[.pointer (some ⟨N + 5, 0, none⟩)]) rfl trivial (enters_of Try.func67 (by kernel_rfl) rfl)
    (members_stops 8 (by omega) (w := W0) (s := a) (N + 5) N (by omega) bM.cell)
    (fun h k => ⟨h.1.trans k.1, k.2.trans h.2⟩) (fun W l o o' hl ho hc hw => ⟨belowK_b (w := W0) (by omega) W l o o' hl ho hc hw, World.putObj_heap_other (by omega)⟩) (Below.refl _ _) (fun _ => rfl)
    (IT a leave N w) (XT a leave N w) (IT.own hNw (by omega)) (XT.own hNw (by omega)) ⟨bA, bL, bR, bN, bK, hB0⟩
    (fun x => { tmps := List.toArray ((.int .u8 a : Value) :: (.int .u8 b : Value) :: (.int .i64 node : Value) :: (.int .i64 leave : Value) :: (.pointer (some ⟨N, 0, none⟩) : Value) :: (undef : Value) :: (undef : Value) :: (.pointer (some ⟨N + 1, 0, none⟩) : Value) :: (.pointer (some ⟨N + 2, 0, none⟩) : Value) :: (.pointer (some ⟨N + 3, 0, none⟩) : Value) :: (.pointer (some ⟨N + 4, 0, none⟩) : Value) :: (.func (.func 67) #[] #[.pointer (some ⟨N + 5, 0, none⟩)] : Value) :: (.int .i64 (x.1 : Nat) : Value) :: (.int .u8 a : Value) :: (.func (.func 67) #[] #[.pointer (some ⟨N + 5, 0, none⟩)] : Value) :: (.func (.func 67) #[] #[.pointer (some ⟨N + 5, 0, none⟩)] : Value) :: (.bool false : Value) :: (.func (.func 67) #[] #[.pointer (some ⟨N + 5, 0, none⟩)] : Value) :: (.int .i64 (x.1 : Nat) : Value) :: (undef : Value) :: (undef : Value) :: (undef : Value) :: (undef : Value) :: (undef : Value) :: (undef : Value) :: (undef : Value) :: (undef : Value) :: (undef : Value) :: (undef : Value) :: (undef : Value) :: (undef : Value) :: (undef : Value) :: (undef : Value) :: (undef : Value) :: (undef : Value) :: (undef : Value) :: (undef : Value) :: (undef : Value) :: (undef : Value) :: (undef : Value) :: (undef : Value) :: (undef : Value) :: (undef : Value) :: (undef : Value) :: (undef : Value) :: (undef : Value) :: (undef : Value) :: (undef : Value) :: (undef : Value) :: (undef : Value) :: (undef : Value) :: (undef : Value) :: (undef : Value) :: (undef : Value) :: (undef : Value) :: (undef : Value) :: (undef : Value) :: (undef : Value) :: (undef : Value) :: (undef : Value) :: (undef : Value) :: (undef : Value) :: (undef : Value) :: (undef : Value) :: (undef : Value) :: (undef : Value) :: (undef : Value) :: (undef : Value) :: (undef : Value) :: (undef : Value) :: (undef : Value) :: (undef : Value) :: (undef : Value) :: (undef : Value) :: (undef : Value) :: (undef : Value) :: (undef : Value) :: (undef : Value) :: (undef : Value) :: (undef : Value) :: (undef : Value) :: (undef : Value) :: (undef : Value) :: (undef : Value) :: (undef : Value) :: (undef : Value) :: (undef : Value) :: (undef : Value) :: (undef : Value) :: (undef : Value) :: (undef : Value) :: (undef : Value) :: (undef : Value) :: []), defers := [] }) ?assign ?body ?done ?stop
  case assign =>
    intro l x W K hK
    dsimp only [encN]
    gi_wp2
    exact hK
  case body =>
    rintro l pre x W ⟨b0, b1, b2, b3, b4, hBW⟩ hlt
    have hx := x.2
    have hL := lastN_le pre
    have HBAD : Hid (∀ r : Prop, ((∃ j : Nat, lastN pre < j ∧ j < x.1 ∧ hasI a (j : Nat) = true) ∨ hasI a (x.1 : Nat) = false) → BadL a (pre ++ [x])) := Lib.hid (fun _ h => ⟨pre, x, rfl, by rcases h with h | h; exact .inl h; exact .inr (.inl h)⟩)
    have HLN := Lib.hid (lastN_snoc pre x)
    obtain ⟨X, hX⟩ : ∃ X, X = x.1 := ⟨_, rfl⟩
    rw [← hX] at hx HBAD HLN ⊢
    have HX := Lib.hid hX
    clear hX
    gi_wp2_with fail
    gi_loopg [22] (8 - lastN pre) (fun g _ wr => LR a leave N w W pre X g wr)
    case atStart => exact ⟨lastN pre, by omega, Nat.le_refl _, .inl rfl, fun i h1 h2 => by omega, b0, b1, b2, b3, b4, rfl, KeepsOthers.refl _, Below.refl _ _⟩
    case round =>
      obtain ⟨j, hg, hLj, hjX, hnone, c0, c1, c2, c3, c4, hM, hKO, hBb⟩ := hrel
      have m0 := c0.cell
      have m1 := c1.cell
      have m2 := c2.cell
      have m3 := c3.cell
      have m4 := c4.cell
      have f2 : wr.frozen? ⟨N + 2, 0, none⟩ = false := free_at c2 0
      have f3 : wr.frozen? ⟨N + 3, 0, none⟩ = false := free_at c3 0
      have f4 : wr.frozen? ⟨N + 4, 0, none⟩ = false := free_at c4 0
      have HC0 := Lib.hid c0
      have HC1 := Lib.hid c1
      have HC2 := Lib.hid c2
      have HC3 := Lib.hid c3
      have HC4 := Lib.hid c4
      have HM := Lib.hid hM
      have HKO := Lib.hid hKO
      have HBb := Lib.hid hBb
      have HNO := Lib.hid hnone
      clear c0 c1 c2 c3 c4 hM hKO hBb hnone b0 b1 b2 b3 b4
      by_cases hk : j + 1 < X
      · have d1 : decide ((j : Int) < (X : Int) - 1) = true := by simp; omega
        obtain ⟨q, hq⟩ : ∃ q, q = hasI a ((j + 1 : Nat) : Int) := ⟨_, rfl⟩
        have C1 : Hid (∀ w, Calls Try.prog 28 #[.int .u8 a, .int .i64 ((j : Int) + 1)] w fun e w' => e = .returned (.bool q) ∧ w = w') := Lib.hid (fun w => by rw [hq]; exact rhas_any a _ w h0 h1)
        have HQ := Lib.hid hq
        clear hq
        cases q
        · have s4 : Boxed (wr.setCell ⟨N + 4, 0, none⟩ (.int .i64 ((j : Int) + 1))) (N + 4) 3 (.int .i64 ((j + 1 : Nat) : Int)) := by have := HC4.out.set (.int .i64 ((j : Int) + 1)); exact this
          have HLR : Hid (LR a leave N w W pre X (8 - (j + 1)) (wr.setCell ⟨N + 4, 0, none⟩ (.int .i64 ((j : Int) + 1)))) := Lib.hid ⟨j + 1, by omega, by omega, .inr (by omega), fun i h1 h2 => by
              by_cases e : i = j + 1
              · rw [e]; exact HQ.out.symm
              · exact HNO.out i h1 (by omega), HC0.out.other (by omega) _, HC1.out.other (by omega) _, HC2.out.other (by omega) _, HC3.out.other (by omega) _, s4, (heap_setCell_ne _ _ _ _ (by simp only; omega)).trans HM.out, HKO.out.trans (KeepsOthers.setCell _ _ _), HBb.out.setCell (p := ⟨N + 4, 0, none⟩) (by simp) _⟩
          clear s4
          gi_wp2_with fail
          refine ⟨trivial, ?_⟩
          gi_at_call 28
          refine (callsIn_wide.2 (C1.out _)).mono ?_
          rintro e w1 ⟨rfl, rfl⟩
          gi_wp2_with fail
          gi_roundg (8 - (j + 1))
          case rel => exact HLR.out
          case measure => omega
        · have HB1 := Lib.hid (HBAD.out True (.inl ⟨j + 1, by omega, hk, HQ.out.symm⟩))
          gi_wp2_with fail
          refine ⟨trivial, ?_⟩
          gi_at_call 28
          refine (callsIn_wide.2 (C1.out _)).mono ?_
          rintro e w1 ⟨rfl, rfl⟩
          gi_wp2_with fail
          exact ⟨HKO.out.trans ((KeepsOthers.setCell _ _ _).trans (KeepsOthers.setCell _ _ _)), .inl ⟨rfl, HB1.out⟩⟩
      · have d1 : decide ((j : Int) < (X : Int) - 1) = false := by simp; omega
        obtain ⟨n, hn⟩ : ∃ n, n = pre.length := ⟨_, rfl⟩
        obtain ⟨q, hq⟩ : ∃ q, q = hasI a ((X : Nat) : Int) := ⟨_, rfl⟩
        have C1 : Hid (∀ w, Calls Try.prog 28 #[.int .u8 a, .int .i64 (X : Int)] w fun e w' => e = .returned (.bool q) ∧ w = w') := Lib.hid (fun w => by rw [hq]; exact rhas_any a _ w h0 h1)
        have HQ := Lib.hid hq
        have hn7 : n < 7 := by omega
        rw [← hn] at m3
        have d7 : decide ((7 : Int) < (n : Int) + 1) = false := by simp; omega
        have HC3' : Hid (Boxed wr (N + 3) 3 (.int .i64 (n : Nat))) := Lib.hid (by rw [hn]; exact HC3.out)
        have HLEN : Hid ((pre ++ [x]).length = n + 1) := Lib.hid (by rw [hn]; simp)
        have HIT : Hid (IT a leave N w (pre ++ [x]) ((wr.setCell ⟨N + 4, 0, none⟩ (.int .i64 (X : Int))).setCell ⟨N + 3, 0, none⟩ (.int .i64 ((n : Int) + 1)))) := Lib.hid ⟨(HC0.out.other (by omega) _).other (by omega) _, (HC1.out.other (by omega) _).other (by omega) _, (HC2.out.other (by omega) _).other (by omega) _,
          (by rw [HLEN.out]; exact (HC3'.out.other (by omega) _).set _), (by rw [HLN.out]; exact (HC4.out.set _).other (by omega) _), hBW.trans ((HBb.out.setCell (p := ⟨N + 4, 0, none⟩) (by simp) _).setCell (p := ⟨N + 3, 0, none⟩) (by simp) _)⟩
        have HKK : Hid (KeepsOthers W ((wr.setCell ⟨N + 4, 0, none⟩ (.int .i64 (X : Int))).setCell ⟨N + 3, 0, none⟩ (.int .i64 ((n : Int) + 1)))) := Lib.hid (HKO.out.trans ((KeepsOthers.setCell _ _ _).trans (KeepsOthers.setCell _ _ _)))
        have HKB : Hid (KpB N (N + 5) W ((wr.setCell ⟨N + 4, 0, none⟩ (.int .i64 (X : Int))).setCell ⟨N + 3, 0, none⟩ (.int .i64 ((n : Int) + 1)))) := Lib.hid ⟨(HBb.out.setCell (p := ⟨N + 4, 0, none⟩) (by simp) _).setCell (p := ⟨N + 3, 0, none⟩) (by simp) _, (heap_setCell_ne _ _ _ _ (by simp only; omega)).trans ((heap_setCell_ne _ _ _ _ (by simp only; omega)).trans HM.out)⟩
        clear hn hq HC3
        cases q
        · have HB1 := Lib.hid (HBAD.out True (.inr HQ.out.symm))
          gi_wp2_with fail
          refine ⟨trivial, ?_⟩
          gi_at_call 28
          refine (callsIn_wide.2 (C1.out _)).mono ?_
          rintro e w1 ⟨rfl, rfl⟩
          gi_wp2_with fail
          exact ⟨HKK.out.trans (KeepsOthers.setCell _ _ _), .inl ⟨rfl, HB1.out⟩⟩
        · by_cases hlv : (n : Int) + 1 = leave
          · subst hlv
            have d8 : (((n : Int) + 1) == ((n : Int) + 1)) = true := by simp
            gi_wp2_with fail
            refine ⟨trivial, ?_⟩
            gi_at_call 28
            refine (callsIn_wide.2 (C1.out _)).mono ?_
            rintro e w1 ⟨rfl, rfl⟩
            gi_wp2_with fail
            exact ⟨HKK.out, .inr ⟨rfl, by rw [HLEN.out]; omega, HIT.out⟩⟩
          · have d8 : (((n : Int) + 1) == leave) = false := by simpa using hlv
            clear hlv
            gi_wp2_with fail
            refine ⟨trivial, ?_⟩
            gi_at_call 28
            refine (callsIn_wide.2 (C1.out _)).mono ?_
            rintro e w1 ⟨rfl, rfl⟩
            gi_wp2_with fail
            exact ⟨HKK.out, HKB.out, HIT.out⟩
  case done =>
    rintro D ys W hD hys ⟨b0, b1, b2, b3, b4, hBW⟩ hK
    have hlen : (ys.length : Int) = szI a := by
      have e1 := mems_cnt a 7
      have e2 := all_u8 (P := fun s => cntI s 7 = szI s) cnt_sz a h0 h1
      have e3 := congrArg List.length hys
      simp only [List.length_map] at e3
      rw [e3, e1]; exact e2
    clear hys
    have m0 := b0.cell
    have m1 := b1.cell
    have m3 : W.cell? ⟨N + 1 + 1 + 1, 0, none⟩ = some (.int .i64 (ys.length : Nat)) := b3.cell
    obtain ⟨n, hn⟩ : ∃ n, n = ys.length := ⟨_, rfl⟩
    have f2 : W.frozen? ⟨N + 1 + 1, 0, none⟩ = false := free_at b2 0
    obtain ⟨vm, hvm⟩ : ∃ v, v = mayI a := ⟨_, rfl⟩
    obtain ⟨vh, hvh⟩ : ∃ v, v = hasI a node := ⟨_, rfl⟩
    obtain ⟨vs, hvs⟩ : ∃ v, v = szI a := ⟨_, rfl⟩
    obtain ⟨vq, hvq⟩ : ∃ v, v = mostI a b := ⟨_, rfl⟩
    obtain ⟨vt, hvt⟩ : ∃ v, v = meetsI a b := ⟨_, rfl⟩
    have A1 : Hid (∀ w, Calls Try.prog 30 #[.int .u8 a] w fun e w' => e = .returned (.bool vm) ∧ w = w') := Lib.hid (fun w => by rw [hvm]; exact mayP_any a w)
    have A2 : Hid (∀ w, Calls Try.prog 31 #[.int .u8 a] w fun e w' => e = .returned (.bool vm) ∧ w = w') := Lib.hid (fun w => by rw [hvm]; exact rmay_any a w h0 h1)
    have A3 : Hid (∀ w, Calls Try.prog 32 #[.int .u8 a, .int .i64 node] w fun e w' => e = .returned (.bool vh) ∧ w = w') := Lib.hid (fun w => by rw [hvh]; exact hasP_any a node w)
    have A4 : Hid (∀ w, Calls Try.prog 28 #[.int .u8 a, .int .i64 node] w fun e w' => e = .returned (.bool vh) ∧ w = w') := Lib.hid (fun w => by rw [hvh]; exact rhas_any a node w h0 h1)
    have A5 : Hid (∀ w, Calls Try.prog 33 #[.int .u8 a] w fun e w' => e = .returned (.int .i64 vs) ∧ w = w') := Lib.hid (fun w => by rw [hvs]; exact sizeP_any a w)
    have A6 : Hid (∀ w, Calls Try.prog 29 #[.int .u8 a] w fun e w' => e = .returned (.int .i64 vs) ∧ w = w') := Lib.hid (fun w => by rw [hvs]; exact rsize_any a w h0 h1)
    have A7 : Hid (∀ w, Calls Try.prog 34 #[.int .u8 a, .int .u8 b] w fun e w' => e = .returned (.bool vq) ∧ w = w') := Lib.hid (fun w => by rw [hvq]; exact most_any a b w)
    have A8 : Hid (∀ w, Calls Try.prog 35 #[.int .u8 a, .int .u8 b] w fun e w' => e = .returned (.bool vq) ∧ w = w') := Lib.hid (fun w => by rw [hvq]; exact rmost_any a b w h0 h1 k0 k1)
    have A9 : Hid (∀ w, Calls Try.prog 36 #[.int .u8 a, .int .u8 b] w fun e w' => e = .returned (.bool vt) ∧ w = w') := Lib.hid (fun w => by rw [hvt]; exact meets_any a b w)
    have A10 : Hid (∀ w, Calls Try.prog 37 #[.int .u8 a, .int .u8 b] w fun e w' => e = .returned (.bool vt) ∧ w = w') := Lib.hid (fun w => by rw [hvt]; exact rmeets_any a b w h0 h1 k0 k1)
    rw [← hn] at m3 hlen
    rw [← hvs] at hlen
    have HK := Lib.hid hK
    have HBW := Lib.hid hBW
    have b2' := b2
    clear hK hBW hn hvm hvh hvs hvq hvt b0 b1 b2 b3 b4
    subst hlen
    have e1 : (((n : Nat) : Int) != ((n : Nat) : Int)) = false := by simp
    by_cases hlv : (n : Int) = leave
    · subst hlv
      gi_upto_region 16 with fail
      refine wpIn_wide.2 ?_
      go_quiet ((go_at_call 29; exact Calls.quiet_of_same (stillQ (A6.out _))))
      obtain ⟨W2, hW2⟩ : ∃ W2, W2 = W.drewN nq := ⟨_, rfl⟩
      have m0 : W2.cell? ⟨N, 0, none⟩ = some (.int .u8 a) := by rw [hW2]; exact m0
      have f2 : W2.frozen? ⟨N + 1 + 1, 0, none⟩ = false := by rw [hW2]; exact f2
      have c2 : W2.cell? ⟨N + 1 + 1, 0, none⟩ = some (.bool false) := by rw [hW2]; exact Boxed.cell b2'
      have HBW2 : Hid (Below N w W2) := Lib.hid (by rw [hW2]; exact ⟨HBW.out.os, HBW.out.tape, HBW.out.output, HBW.out.size, HBW.out.block⟩)
      have HK2 : Hid (W2.heap[D]? = some (.deferred (some []))) := Lib.hid (by rw [hW2]; exact HK.out)
      have hlt2 : N + 1 + 1 < W2.heap.size := by rw [hW2]; exact Boxed.lt b2'
      have HBB : Hid (Boxed W2 (N + 1 + 1) 4 (.bool false)) := Lib.hid (by rw [hW2]; exact b2')
      rw [← hW2]
      clear hW2
      gi_upto_region 18 with fail
      refine wpIn_wide.2 ?_
      refine wp_region_still_tail 40 (by kernel_rfl) (by kernel_rfl) ?_
      simp only [List.take_succ_cons, List.take_zero, List.drop_succ_cons, List.drop_zero]
      repeat (first | still_step | still_call (stillQ (A1.out _)) | still_call (stillQ (A2.out _)) | still_call (stillQ (A3.out _)) | still_call (stillQ (A4.out _)) | still_call (stillQ (A5.out _)) | still_call (stillQ (A6.out _)) | still_call (stillQ (A7.out _)) | still_call (stillQ (A8.out _)) | still_call (stillQ (A9.out _)) | still_call (stillQ (A10.out _)))
      refine wpStill_nil ?_
      change wpList _ _ _ _ _ W2.drew
      go_wp2_with (go_at_call 38; refine Calls.mono (cwakes_any _) ?_; rintro e X6 ⟨rfl, hX6⟩; have HX6 := Lib.hid (below_undrew' hX6); have f6 : X6.frozen? ⟨N + 1 + 1, 0, none⟩ = false := (HX6.out.frozen (p := ⟨N + 1 + 1, 0, none⟩) hlt2).trans f2; have c6 : X6.cell? ⟨N + 1 + 1, 0, none⟩ = some (.bool false) := (HX6.out.cell (p := ⟨N + 1 + 1, 0, none⟩) hlt2).trans c2)
      gi_wp2
      have hDlt : D < W2.heap.size := lt_of_block HK2.out
      have hb6 : Boxed X6 (N + 1 + 1) 4 (.bool false) := by
        have := HX6.out.block (N + 1 + 1) hlt2
        exact this.trans HBB.out
      have hK6 : (X6.setCell ⟨N + 1 + 1, 0, none⟩ (.bool true)).heap[D]? = some (.deferred (some [])) := (heap_setCell_ne X6 ⟨N + 1 + 1, 0, none⟩ _ D (by simp only; omega)).trans ((HX6.out.block D hDlt).trans HK2.out)
      refine ⟨by simp, .inl ⟨_, _, rfl, run_takeDeferred hK6, ?_⟩⟩
      have hR3 : Boxed ((X6.setCell ⟨N + 1 + 1, 0, none⟩ (.bool true)).putObj D (Obj.deferred none)) (N + 1 + 1) 4 (.bool true) := (World.putObj_heap_other (by omega)).trans (hb6.set _)
      have hc4 := hR3.cell
      refine ⟨_, (by simp [results, Try.results5, go_sem, hc4]), rfl, ?_⟩
      rw [← HN.out]
      exact (HBW2.out.trans ((HX6.out.mono (by have := HBW2.out.size; omega)).setCell (p := ⟨N + 1 + 1, 0, none⟩) (by simp only; omega) _)).trans (belowK_b (w := W0) (by omega) _ D _ _ hD hK6 rfl rfl)
    · have d8 : (((n : Int)) != leave) = true := by simpa using hlv
      clear hlv
      gi_upto_region 16 with fail
      refine wpIn_wide.2 ?_
      go_quiet ((go_at_call 29; exact Calls.quiet_of_same (stillQ (A6.out _))))
      obtain ⟨W2, hW2⟩ : ∃ W2, W2 = W.drewN nq := ⟨_, rfl⟩
      have m0 : W2.cell? ⟨N, 0, none⟩ = some (.int .u8 a) := by rw [hW2]; exact m0
      have f2 : W2.frozen? ⟨N + 1 + 1, 0, none⟩ = false := by rw [hW2]; exact f2
      have c2 : W2.cell? ⟨N + 1 + 1, 0, none⟩ = some (.bool false) := by rw [hW2]; exact Boxed.cell b2'
      have HBW2 : Hid (Below N w W2) := Lib.hid (by rw [hW2]; exact ⟨HBW.out.os, HBW.out.tape, HBW.out.output, HBW.out.size, HBW.out.block⟩)
      have HK2 : Hid (W2.heap[D]? = some (.deferred (some []))) := Lib.hid (by rw [hW2]; exact HK.out)
      have hlt2 : N + 1 + 1 < W2.heap.size := by rw [hW2]; exact Boxed.lt b2'
      have HBB : Hid (Boxed W2 (N + 1 + 1) 4 (.bool false)) := Lib.hid (by rw [hW2]; exact b2')
      rw [← hW2]
      clear hW2
      gi_upto_region 18 with fail
      refine wpIn_wide.2 ?_
      refine wp_region_still_tail 40 (by kernel_rfl) (by kernel_rfl) ?_
      simp only [List.take_succ_cons, List.take_zero, List.drop_succ_cons, List.drop_zero]
      repeat (first | still_step | still_call (stillQ (A1.out _)) | still_call (stillQ (A2.out _)) | still_call (stillQ (A3.out _)) | still_call (stillQ (A4.out _)) | still_call (stillQ (A5.out _)) | still_call (stillQ (A6.out _)) | still_call (stillQ (A7.out _)) | still_call (stillQ (A8.out _)) | still_call (stillQ (A9.out _)) | still_call (stillQ (A10.out _)))
      refine wpStill_nil ?_
      change wpList _ _ _ _ _ W2.drew
      go_wp2_with (go_at_call 38; refine Calls.mono (cwakes_any _) ?_; rintro e X6 ⟨rfl, hX6⟩; have HX6 := Lib.hid (below_undrew' hX6); have f6 : X6.frozen? ⟨N + 1 + 1, 0, none⟩ = false := (HX6.out.frozen (p := ⟨N + 1 + 1, 0, none⟩) hlt2).trans f2; have c6 : X6.cell? ⟨N + 1 + 1, 0, none⟩ = some (.bool false) := (HX6.out.cell (p := ⟨N + 1 + 1, 0, none⟩) hlt2).trans c2)
      gi_wp2
      have hDlt : D < W2.heap.size := lt_of_block HK2.out
      have hb6 : Boxed X6 (N + 1 + 1) 4 (.bool false) := by
        have := HX6.out.block (N + 1 + 1) hlt2
        exact this.trans HBB.out
      have hK6 : (X6.setCell ⟨N + 1 + 1, 0, none⟩ (.bool true)).heap[D]? = some (.deferred (some [])) := (heap_setCell_ne X6 ⟨N + 1 + 1, 0, none⟩ _ D (by simp only; omega)).trans ((HX6.out.block D hDlt).trans HK2.out)
      refine ⟨by simp, .inl ⟨_, _, rfl, run_takeDeferred hK6, ?_⟩⟩
      have hR3 : Boxed ((X6.setCell ⟨N + 1 + 1, 0, none⟩ (.bool true)).putObj D (Obj.deferred none)) (N + 1 + 1) 4 (.bool true) := (World.putObj_heap_other (by omega)).trans (hb6.set _)
      have hc4 := hR3.cell
      refine ⟨_, (by simp [results, Try.results5, go_sem, hc4]), rfl, ?_⟩
      rw [← HN.out]
      exact (HBW2.out.trans ((HX6.out.mono (by have := HBW2.out.size; omega)).setCell (p := ⟨N + 1 + 1, 0, none⟩) (by simp only; omega) _)).trans (belowK_b (w := W0) (by omega) _ D _ _ hD hK6 rfl rfl)
  case stop =>
    rintro D c pre W hD ⟨j, hj, hpj, _⟩ hx hK
    rcases hx with ⟨rfl, hbad⟩ | ⟨rfl, hlv, b0, b1, b2, b3, b4, hBW⟩
    · exact (mems_good a j hj pre hpj hbad).elim
    · have m0 := b0.cell
      have m1 := b1.cell
      have m3 : W.cell? ⟨N + 1 + 1 + 1, 0, none⟩ = some (.int .i64 (pre.length : Nat)) := b3.cell
      obtain ⟨n, hn⟩ : ∃ n, n = pre.length := ⟨_, rfl⟩
      have f2 : W.frozen? ⟨N + 1 + 1, 0, none⟩ = false := free_at b2 0
      obtain ⟨vm, hvm⟩ : ∃ v, v = mayI a := ⟨_, rfl⟩
      obtain ⟨vh, hvh⟩ : ∃ v, v = hasI a node := ⟨_, rfl⟩
      obtain ⟨vs, hvs⟩ : ∃ v, v = szI a := ⟨_, rfl⟩
      obtain ⟨vq, hvq⟩ : ∃ v, v = mostI a b := ⟨_, rfl⟩
      obtain ⟨vt, hvt⟩ : ∃ v, v = meetsI a b := ⟨_, rfl⟩
      have A1 : Hid (∀ w, Calls Try.prog 30 #[.int .u8 a] w fun e w' => e = .returned (.bool vm) ∧ w = w') := Lib.hid (fun w => by rw [hvm]; exact mayP_any a w)
      have A2 : Hid (∀ w, Calls Try.prog 31 #[.int .u8 a] w fun e w' => e = .returned (.bool vm) ∧ w = w') := Lib.hid (fun w => by rw [hvm]; exact rmay_any a w h0 h1)
      have A3 : Hid (∀ w, Calls Try.prog 32 #[.int .u8 a, .int .i64 node] w fun e w' => e = .returned (.bool vh) ∧ w = w') := Lib.hid (fun w => by rw [hvh]; exact hasP_any a node w)
      have A4 : Hid (∀ w, Calls Try.prog 28 #[.int .u8 a, .int .i64 node] w fun e w' => e = .returned (.bool vh) ∧ w = w') := Lib.hid (fun w => by rw [hvh]; exact rhas_any a node w h0 h1)
      have A5 : Hid (∀ w, Calls Try.prog 33 #[.int .u8 a] w fun e w' => e = .returned (.int .i64 vs) ∧ w = w') := Lib.hid (fun w => by rw [hvs]; exact sizeP_any a w)
      have A6 : Hid (∀ w, Calls Try.prog 29 #[.int .u8 a] w fun e w' => e = .returned (.int .i64 vs) ∧ w = w') := Lib.hid (fun w => by rw [hvs]; exact rsize_any a w h0 h1)
      have A7 : Hid (∀ w, Calls Try.prog 34 #[.int .u8 a, .int .u8 b] w fun e w' => e = .returned (.bool vq) ∧ w = w') := Lib.hid (fun w => by rw [hvq]; exact most_any a b w)
      have A8 : Hid (∀ w, Calls Try.prog 35 #[.int .u8 a, .int .u8 b] w fun e w' => e = .returned (.bool vq) ∧ w = w') := Lib.hid (fun w => by rw [hvq]; exact rmost_any a b w h0 h1 k0 k1)
      have A9 : Hid (∀ w, Calls Try.prog 36 #[.int .u8 a, .int .u8 b] w fun e w' => e = .returned (.bool vt) ∧ w = w') := Lib.hid (fun w => by rw [hvt]; exact meets_any a b w)
      have A10 : Hid (∀ w, Calls Try.prog 37 #[.int .u8 a, .int .u8 b] w fun e w' => e = .returned (.bool vt) ∧ w = w') := Lib.hid (fun w => by rw [hvt]; exact rmeets_any a b w h0 h1 k0 k1)
      rw [← hn] at m3 hlv
      have HK := Lib.hid hK
      have HBW := Lib.hid hBW
      have b2' := b2
      clear hK hBW hn hvm hvh hvs hvq hvt b0 b1 b2 b3 b4
      have e1 : (((n : Nat) : Int) != ((n : Nat) : Int)) = false := by simp
      subst hlv
      gi_upto_region 16 with fail
      refine wpIn_wide.2 ?_
      go_quiet ((go_at_call 29; exact Calls.quiet_of_same (stillQ (A6.out _))))
      obtain ⟨W2, hW2⟩ : ∃ W2, W2 = W.drewN nq := ⟨_, rfl⟩
      have m0 : W2.cell? ⟨N, 0, none⟩ = some (.int .u8 a) := by rw [hW2]; exact m0
      have f2 : W2.frozen? ⟨N + 1 + 1, 0, none⟩ = false := by rw [hW2]; exact f2
      have c2 : W2.cell? ⟨N + 1 + 1, 0, none⟩ = some (.bool false) := by rw [hW2]; exact Boxed.cell b2'
      have HBW2 : Hid (Below N w W2) := Lib.hid (by rw [hW2]; exact ⟨HBW.out.os, HBW.out.tape, HBW.out.output, HBW.out.size, HBW.out.block⟩)
      have HK2 : Hid (W2.heap[D]? = some (.deferred (some []))) := Lib.hid (by rw [hW2]; exact HK.out)
      have hlt2 : N + 1 + 1 < W2.heap.size := by rw [hW2]; exact Boxed.lt b2'
      have HBB : Hid (Boxed W2 (N + 1 + 1) 4 (.bool false)) := Lib.hid (by rw [hW2]; exact b2')
      rw [← hW2]
      clear hW2
      gi_upto_region 18 with fail
      refine wpIn_wide.2 ?_
      refine wp_region_still_tail 40 (by kernel_rfl) (by kernel_rfl) ?_
      simp only [List.take_succ_cons, List.take_zero, List.drop_succ_cons, List.drop_zero]
      repeat (first | still_step | still_call (stillQ (A1.out _)) | still_call (stillQ (A2.out _)) | still_call (stillQ (A3.out _)) | still_call (stillQ (A4.out _)) | still_call (stillQ (A5.out _)) | still_call (stillQ (A6.out _)) | still_call (stillQ (A7.out _)) | still_call (stillQ (A8.out _)) | still_call (stillQ (A9.out _)) | still_call (stillQ (A10.out _)))
      refine wpStill_nil ?_
      change wpList _ _ _ _ _ W2.drew
      go_wp2_with (go_at_call 38; refine Calls.mono (cwakes_any _) ?_; rintro e X6 ⟨rfl, hX6⟩; have HX6 := Lib.hid (below_undrew' hX6); have f6 : X6.frozen? ⟨N + 1 + 1, 0, none⟩ = false := (HX6.out.frozen (p := ⟨N + 1 + 1, 0, none⟩) hlt2).trans f2; have c6 : X6.cell? ⟨N + 1 + 1, 0, none⟩ = some (.bool false) := (HX6.out.cell (p := ⟨N + 1 + 1, 0, none⟩) hlt2).trans c2)
      gi_wp2
      have hDlt : D < W2.heap.size := lt_of_block HK2.out
      have hb6 : Boxed X6 (N + 1 + 1) 4 (.bool false) := by
        have := HX6.out.block (N + 1 + 1) hlt2
        exact this.trans HBB.out
      have hK6 : (X6.setCell ⟨N + 1 + 1, 0, none⟩ (.bool true)).heap[D]? = some (.deferred (some [])) := (heap_setCell_ne X6 ⟨N + 1 + 1, 0, none⟩ _ D (by simp only; omega)).trans ((HX6.out.block D hDlt).trans HK2.out)
      refine ⟨by simp, .inl ⟨_, _, rfl, run_takeDeferred hK6, ?_⟩⟩
      have hR3 : Boxed ((X6.setCell ⟨N + 1 + 1, 0, none⟩ (.bool true)).putObj D (Obj.deferred none)) (N + 1 + 1) 4 (.bool true) := (World.putObj_heap_other (by omega)).trans (hb6.set _)
      have hc4 := hR3.cell
      refine ⟨_, (by simp [results, Try.results5, go_sem, hc4]), rfl, ?_⟩
      rw [← HN.out]
      exact (HBW2.out.trans ((HX6.out.mono (by have := HBW2.out.size; omega)).setCell (p := ⟨N + 1 + 1, 0, none⟩) (by simp only; omega) _)).trans (belowK_b (w := W0) (by omega) _ D _ _ hD hK6 rfl rfl)
end Go.Proofs.Ytnaoajdbopminaa
