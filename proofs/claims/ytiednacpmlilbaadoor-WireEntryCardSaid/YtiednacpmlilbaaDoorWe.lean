/-
  The eye, which reads, as a hand.
-/
import Derived.Test.YtiednacpmlilbaaDoorWl
namespace Go.Proofs.YtiednacpmlilbaaDoor
open Go.RowKit
set_option linter.unusedSimpArgs false
set_option linter.unusedVariables false

theorem sizeBy : ∀ W : World, (sizeOf (Tryd.prog.elem 23)).run Tryd.prog W = .ok 1 W := fun W => by kernel_rfl
theorem elemBy : Tryd.prog.underlying 23 = some (.slice (Tryd.prog.elem 23)) := by kernel_rfl
def midB (a : Option Addr) (i m : Nat) : Option Addr := if m = i then a else a.map (·.add (i * 1))
theorem by_lh {a : Option Addr} {ln c : Nat} (i e : Nat) (h1 : i ≤ e) (h3 : e ≤ c) (W' : World) :
    (Instr.slice 23 (.slice a ln c) (some (.int .i64 (i : Nat))) (some (.int .i64 (e : Nat))) none).run Tryd.prog W' = .ok (.slice (midB a i c) (e - i) (c - i)) W' := by
  rw [run_slice_lh W' 23 a ln c elemBy .i64 .i64 i e (by omega) (by omega) (by omega), sizeBy]
  rfl
theorem byin_mid {W : World} {a : Option Addr} {n c b o : Nat} {l : List Nat} (h : ByIn W a n c b o (gB l)) (hn : n = l.length) (i m : Nat) (hm : m + i ≤ n) :
    ByIn W (midB a i c) m (c - i) b (o + i) (gB ((l.drop i).take m)) := by
  have hg : ∀ k, k < m → gB ((l.drop i).take m) k = gB l (i + k) := fun k hk => by
    unfold gB
    rw [List.getElem?_take, if_pos hk, List.getElem?_drop]
  refine ⟨by have := h.le; omega, by have := h.max; omega, fun h0 => ?_, fun k hk => ?_, fun k hk => ?_⟩
  · have h1 := h.at_ (by omega)
    have := h.le
    refine ⟨?_, h1.2⟩
    unfold midB
    rw [if_neg (by omega), h1.1]
    show some ((⟨b, o, none⟩ : Addr).add (i * 1)) = _
    rw [addr_add, Nat.mul_one]
  · rw [hg k hk, Nat.add_assoc]
    exact h.cell (i + k) (by omega)
  · rw [hg k hk]
    exact h.bd (i + k) (by omega)
/-- bytes below lo -/
def BL (lo : Nat) (W : World) (v : Value) (l : List Nat) : Prop := ∃ a b o c, v = .slice a l.length c ∧ ByIn W a l.length c b o (gB l) ∧ (0 < l.length → b < lo)
theorem BL.fr {lo : Nat} {W W' : World} {v : Value} {l : List Nat} (h : BL lo W v l) (ho : ∀ q, q < lo → W'.heap[q]? = W.heap[q]?) (hs : W.heap.size ≤ W'.heap.size) : BL lo W' v l := by
  obtain ⟨a, b, o, c, e, h1, h2⟩ := h
  refine ⟨a, b, o, c, e, ⟨h1.le, h1.max, fun h0 => ⟨(h1.at_ h0).1, Nat.lt_of_lt_of_le (h1.at_ h0).2 hs⟩, fun k hk => ?_, h1.bd⟩, h2⟩
  have := h1.cell k hk
  unfold World.cell? at this ⊢
  rw [ho b (h2 (by omega))]
  exact this
def eyeS (y lo : Nat) (bs : List Nat) : HS Nat where
  In W s := ∃ v, Blk W y #[v, .int .i64 (s : Nat)] 148 ∧ BL lo W v bs ∧ s ≤ bs.length ∧ lo ≤ y ∧ bs.length ≤ 1048576
  lo := lo
  Pr q _ := q ≠ y ∧ lo ≤ q
  rd := True
  k0 := 80
  k1 := 81
  k2 := 82
  k3 := 83
  k4 := 84
  k5 := 85
  bnd := .pointer (some ⟨y, 0, none⟩)
  pre f _ d := f = .text → d = .b []
  step f s _ := match decF bs s f with
    | .error a => .error a
    | .ok (x, s2) => .ok (s2, x)
  cpre _ n least := n ≤ 9223372036854775807 ∧ 0 < least ∧ least ≤ 1000
  cnt s _ least := match cntB bs s least with
    | .error a => .error a
    | .ok k => .ok (s + 8, k)
section
variable {y lo : Nat} {bs : List Nat}
theorem eye_frN {W W' : World} {s : Nat} (h : (eyeS y lo bs).In W s) (hf : FrN lo W W') : (eyeS y lo bs).In W' s := by
  obtain ⟨v, h1, h2, h3, h4⟩ := h
  exact ⟨v, hf.blk _ _ _ h1 (.inr (.inl rfl)), h2.fr hf.old hf.size, h3, h4⟩
theorem eye_new {W : World} {s q : Nat} {ty : TypeId} (h : (eyeS y lo bs).In W s) (hq : W.heap.size ≤ q) : (eyeS y lo bs).Pr q ty := by
  obtain ⟨v, h1, h2, h3, h4, h5⟩ := h
  have := h1.lt
  exact ⟨by omega, by omega⟩
theorem eye_lo {W : World} {s : Nat} (h : (eyeS y lo bs).In W s) : (eyeS y lo bs).lo ≤ W.heap.size := by
  obtain ⟨v, h1, h2, h3, h4, h5⟩ := h
  have := h1.lt
  show lo ≤ _
  omega
theorem eye_below {W W' : World} {s : Nat} (h : (eyeS y lo bs).In W s) (hB : Below W.heap.size W W') : (eyeS y lo bs).In W' s := eye_frN h (below_frN hB (eye_lo h))
theorem eye_at {W : World} {ty : TypeId} {g j : Nat} {v : Value} (h : At (eyeS y lo bs) W ty g j v) : ∃ cs, Blk W g cs ty ∧ (g ≠ y ∧ lo ≤ g) ∧ ty ≠ 5 ∧ cs[j]? = some v := by
  rcases h with ⟨h, _⟩ | h
  · exact absurd trivial h
  · exact h
theorem eye_put {W : World} {s : Nat} {ty : TypeId} {g j : Nat} {v v' : Value} (h : (eyeS y lo bs).In W s) (hA : At (eyeS y lo bs) W ty g j v) : (eyeS y lo bs).In (W.setCell ⟨g, j, none⟩ v') s := by
  obtain ⟨u, h1, h2, h3⟩ := h
  obtain ⟨cs, k1, ⟨k2, k3⟩, _⟩ := eye_at hA
  exact ⟨u, (heap_setCell_ne W ⟨g, j, none⟩ v' y (fun e => k2 e.symm)).trans h1, h2.fr (fun q hq => heap_setCell_ne W ⟨g, j, none⟩ v' q (fun e => by dsimp only at e; omega)) (by simp), h3⟩
theorem eye_ok (g : Nat) (ty : TypeId) (h : (eyeS y lo bs).Pr g ty) : (eyeS y lo bs).lo ≤ g := h.2
/-- a store at a place, told as a step's end -/
theorem eye_store {W0 W : World} {s : Nat} {ty : TypeId} {g j : Nat} {v v' : Value} (hI : (eyeS y lo bs).In W s) (hA : At (eyeS y lo bs) W ty g j v) (hF : FrA (eyeS y lo bs) (fun _ _ _ => False) W0 W) :
    FrA (eyeS y lo bs) (cell1 ty g j) W0 (W.setCell ⟨g, j, none⟩ v') ∧ (eyeS y lo bs).In (W.setCell ⟨g, j, none⟩ v') s ∧ At (eyeS y lo bs) (W.setCell ⟨g, j, none⟩ v') ty g j v' := by
  have h := hA.store (v' := v') (fun h => absurd trivial h) (fun g ty _ h => eye_ok g ty h)
  exact ⟨hF.trans h.1 (fun _ _ _ h => h.elim) (fun _ _ _ h => h), eye_put hI hA, h.2⟩
set_option maxRecDepth 100000 in
set_option maxHeartbeats 8000000 in
/-- the next n bytes -/
theorem eye_take (W : World) (s n : Nat) (hI : (eyeS y lo bs).In W s) (hn : n ≤ 1048576) :
    Calls Tryd.prog 112 #[.pointer (some ⟨y, 0, none⟩), .int .i64 (n : Nat)] W fun e W' => FrA (eyeS y lo bs) (fun _ _ _ => False) W W' ∧ match takeB bs s n with
      | .error a => e = .panicked [{ v := refV a, recovered := false }]
      | .ok l => ∃ v, e = .returned v ∧ (eyeS y lo bs).In W' (s + n) ∧ BL lo W' v l ∧ l.length = n := by
  have hI0 := hI
  obtain ⟨v, hb, ⟨a, b, o, c, rfl, hby, hbl⟩, hs, hly, hlen⟩ := hI
  have hle := hby.le
  have hmx := hby.max
  obtain ⟨ln, hln⟩ : ∃ ln, ln = bs.length := ⟨_, rfl⟩
  rw [← hln] at hb hby hbl hs hlen hle
  have q0 : W.cell? ⟨y, 0, none⟩ = some (.slice a ln c) := cell_at hb 0
  have q1 : W.cell? ⟨y, 1, none⟩ = some (.int .i64 (s : Nat)) := cell_at hb 1
  have hd := hb.step (drew_b W)
  have HD := Lib.hid hd
  have w1 : IntKind.i64.wrap ((ln : Int) - (s : Int)) = (ln : Int) - (s : Int) := IntWalk.i64_in _ (by omega)
  have HBY := Lib.hid (And.intro hby hbl)
  have HLN := Lib.hid hln
  have HH := Lib.hid hI0
  have HB := Lib.hid hb
  have HX := Lib.hid (And.intro hs (And.intro hly (And.intro hlen (And.intro hle hmx))))
  by_cases hc : n + s ≤ ln
  · skip
    rw [show takeB bs s n = .ok ((bs.drop s).take n) by unfold takeB; rw [if_pos (by omega)]]
    have c1 : ((ln : Int) - (s : Int) < (n : Int)) = False := eq_false (by omega)
    have hll : ((bs.drop s).take n).length = n := by rw [List.length_take, List.length_drop]; omega
    obtain ⟨l, hl⟩ : ∃ l, l = (bs.drop s).take n := ⟨_, rfl⟩
    rw [← hl] at hll ⊢
    have w2 : IntKind.i64.wrap ((s : Int) + (n : Int)) = ((s + n : Nat) : Int) := by rw [IntWalk.i64_in _ (by omega)]; omega
    obtain ⟨s2, hs2⟩ : ∃ s2, s2 = s + n := ⟨_, rfl⟩
    rw [← hs2] at w2 ⊢
    have w3 : IntKind.i64.wrap ((s2 : Int) - (n : Int)) = (s : Int) := by rw [IntWalk.i64_in _ (by omega)]; omega
    have hsl : ∀ W', (Instr.slice 23 (.slice a ln c) (some (.int .i64 (s : Nat))) (some (.int .i64 (s2 : Nat))) none).run Tryd.prog W' = .ok (.slice (midB a s c) (s2 - s) (c - s)) W' := fun W' => by_lh s s2 (by omega) (by omega) W'
    have hby2 := byin_mid hby hln s n hc
    rw [show s2 - s = n by omega] at hsl
    obtain ⟨a2, ha2⟩ : ∃ a2, a2 = midB a s c := ⟨_, rfl⟩
    obtain ⟨c2, hc2⟩ : ∃ c2, c2 = c - s := ⟨_, rfl⟩
    rw [← ha2, ← hc2] at hsl hby2
    have hB2 := hb.set 1 (.int .i64 (s2 : Nat))
    obtain ⟨W2, hW2⟩ : ∃ W2, W2 = (W.setCell ⟨y, 1, none⟩ (.int .i64 (s2 : Nat))).drew := ⟨_, rfl⟩
    have hb2 : Blk W2 y #[.slice a ln c, .int .i64 (s2 : Nat)] 148 := by rw [hW2]; exact (hb.set 1 _).step (drew_b _)
    have hne : ∀ q, q ≠ y → W2.heap[q]? = W.heap[q]? := fun q hq => by rw [hW2]; exact heap_setCell_ne W ⟨y, 1, none⟩ _ q (fun e => hq e)
    have hsz2 : W2.heap.size = W.heap.size := by rw [hW2]; simp
    have hf2 : FrA (eyeS y lo bs) (fun _ _ _ => False) W W2.drew := ⟨by rw [hW2]; rfl, by rw [hW2]; rfl, by rw [hW2]; rfl, by show W.heap.size ≤ W2.heap.size; omega, fun q hq => hne q (by have hq : q < lo := hq; omega), fun q cs ty hbq hpq => ⟨cs, (hne q hpq.1).trans hbq, rfl, fun _ _ => rfl⟩⟩
    have hbl2 : BL lo W2.drew (.slice a ln c) bs := BL.fr (W := W) ⟨a, b, o, c, by rw [hln], by rw [← hln]; exact hby, by rw [← hln]; exact hbl⟩ hf2.old hf2.size
    have hend : (eyeS y lo bs).In W2.drew s2 := ⟨_, hb2.step (drew_b W2), hbl2, by omega, hly, by omega⟩
    have hbl3 : BL lo W2.drew (.slice a2 n c2) l := by
      refine BL.fr (W := W) ⟨a2, b, o + s, c2, by rw [hll], ?_, fun h0 => hbl (by omega)⟩ hf2.old hf2.size
      rw [hll, hl]
      exact hby2
    have HEND := Lib.hid (And.intro hf2 (And.intro hend (And.intro hbl3 hll)))
    have HB2 := Lib.hid hb2
    have ez : W.drew.frozen? ⟨y, 1, none⟩ = false := free_at hd 1
    have q1d : W.drew.cell? ⟨y, 1, none⟩ = some (.int .i64 (s : Nat)) := cell_at hd 1
    clear hf2 hend hbl3 hll hb2 hne hsz2 hbl2 hB2 ha2 hc2 hby2 hl hs2 hby hbl hln hI0 hb hs hly hlen hle hmx hd q0 q1 hn
    go_enter Tryd.func112, Tryd.ntmps112
    go_upto_region 1 with fail
    refine wp_region_held_drew (S := fun X => X.cell? ⟨y, 0, none⟩ = some (.slice a ln c) ∧ X.cell? ⟨y, 1, none⟩ = some (.int .i64 (s : Nat))) (by kernel_rfl) ⟨cell_at HD.out 0, cell_at HD.out 1⟩ (fun hHeld => ?_)
    ((refine wpAnyH_take (i := 0) (v := ?_) (by (simp only [List.getElem?_toArray, List.getElem?_cons_succ, List.getElem?_cons_zero]); rfl) (by kernel_rfl) (by kernel_rfl) (by kernel_rfl) (by exact fun _ _ _ h => h) (Or.inl ⟨by rfl, ?_⟩) (by assumption) ?_); rotate_left; focus (intro wS hSw; (try dsimp only at hSw); go_simp; first | done | with_reducible rfl); try simp only [Act.put, List.setIfInBounds_toArray, List.set_cons_zero, List.set_cons_succ])
    ((refine wpAnyH_take (i := 1) (v := ?_) (by (simp only [List.getElem?_toArray, List.getElem?_cons_succ, List.getElem?_cons_zero]); rfl) (by kernel_rfl) (by kernel_rfl) (by kernel_rfl) (by exact fun _ _ _ h => h) (Or.inl ⟨by rfl, ?_⟩) (by assumption) ?_); rotate_left; focus (intro wS hSw; (try dsimp only at hSw); go_simp; first | done | with_reducible rfl); try simp only [Act.put, List.setIfInBounds_toArray, List.set_cons_zero, List.set_cons_succ])
    ((refine wpAnyH_take (i := 2) (v := ?_) (by (simp only [List.getElem?_toArray, List.getElem?_cons_succ, List.getElem?_cons_zero]); rfl) (by kernel_rfl) (by kernel_rfl) (by kernel_rfl) (by exact fun _ _ _ h => h) (Or.inl ⟨by rfl, ?_⟩) (by assumption) ?_); rotate_left; focus (intro wS hSw; (try dsimp only at hSw); go_simp; first | done | with_reducible rfl); try simp only [Act.put, List.setIfInBounds_toArray, List.set_cons_zero, List.set_cons_succ])
    ((refine wpAnyH_take (i := 3) (v := ?_) (by (simp only [List.getElem?_toArray, List.getElem?_cons_succ, List.getElem?_cons_zero]); rfl) (by kernel_rfl) (by kernel_rfl) (by kernel_rfl) (by exact fun _ _ _ h => h) (Or.inl ⟨by rfl, ?_⟩) (by assumption) ?_); rotate_left; focus (intro wS hSw; (try dsimp only at hSw); go_simp; first | done | with_reducible rfl); try simp only [Act.put, List.setIfInBounds_toArray, List.set_cons_zero, List.set_cons_succ])
    ((refine wpAnyH_take (i := 4) (v := ?_) (by (simp only [List.getElem?_toArray, List.getElem?_cons_succ, List.getElem?_cons_zero]); rfl) (by kernel_rfl) (by kernel_rfl) (by kernel_rfl) (by exact fun _ _ _ h => h) (Or.inl ⟨by rfl, ?_⟩) (by assumption) ?_); rotate_left; focus (intro wS hSw; (try dsimp only at hSw); go_simp; first | done | with_reducible rfl); try simp only [Act.put, List.setIfInBounds_toArray, List.set_cons_zero, List.set_cons_succ])
    ((refine wpAnyH_take (i := 5) (v := ?_) (by (simp only [List.getElem?_toArray, List.getElem?_cons_succ, List.getElem?_cons_zero]); rfl) (by kernel_rfl) (by kernel_rfl) (by kernel_rfl) (by exact fun _ _ _ h => h) (Or.inl ⟨by rfl, ?_⟩) (by assumption) ?_); rotate_left; focus (intro wS hSw; (try dsimp only at hSw); go_simp; first | done | with_reducible rfl); try simp only [Act.put, List.setIfInBounds_toArray, List.set_cons_zero, List.set_cons_succ])
    ((refine wpAnyH_take (i := 6) (v := ?_) (by (simp only [List.getElem?_toArray, List.getElem?_cons_succ, List.getElem?_cons_zero]); rfl) (by kernel_rfl) (by kernel_rfl) (by kernel_rfl) (by exact fun _ _ _ h => h) (Or.inl ⟨by rfl, ?_⟩) (by assumption) ?_); rotate_left; focus (intro wS hSw; (try dsimp only at hSw); go_simp; first | done | with_reducible rfl); try simp only [Act.put, List.setIfInBounds_toArray, List.set_cons_zero, List.set_cons_succ])
    ((refine wpAnyH_take (i := 7) (v := ?_) (by (simp only [List.getElem?_toArray, List.getElem?_cons_succ, List.getElem?_cons_zero]); rfl) (by kernel_rfl) (by kernel_rfl) (by kernel_rfl) (by exact fun _ _ _ h => h) (Or.inl ⟨by rfl, ?_⟩) (by assumption) ?_); rotate_left; focus (intro wS hSw; (try dsimp only at hSw); go_simp; first | done | with_reducible rfl); try simp only [Act.put, List.setIfInBounds_toArray, List.set_cons_zero, List.set_cons_succ])
    ((refine wpAnyH_take (i := 8) (v := ?_) (by (simp only [List.getElem?_toArray, List.getElem?_cons_succ, List.getElem?_cons_zero]); rfl) (by kernel_rfl) (by kernel_rfl) (by kernel_rfl) (by exact fun _ _ _ h => h) (Or.inl ⟨by rfl, ?_⟩) (by assumption) ?_); rotate_left; focus (intro wS hSw; (try dsimp only at hSw); go_simp; first | done | with_reducible rfl); try simp only [Act.put, List.setIfInBounds_toArray, List.set_cons_zero, List.set_cons_succ])
    ((refine wpAnyH_take (i := 9) (v := ?_) (by (simp only [List.getElem?_toArray, List.getElem?_cons_succ, List.getElem?_cons_zero]); rfl) (by kernel_rfl) (by kernel_rfl) (by kernel_rfl) (by exact fun _ _ _ h => h) (Or.inl ⟨by rfl, ?_⟩) (by assumption) ?_); rotate_left; focus (intro wS hSw; (try dsimp only at hSw); go_simp; first | done | with_reducible rfl); try simp only [Act.put, List.setIfInBounds_toArray, List.set_cons_zero, List.set_cons_succ])
    ((refine wpAnyH_take (i := 10) (v := ?_) (by (simp only [List.getElem?_toArray, List.getElem?_cons_succ, List.getElem?_cons_zero]); rfl) (by kernel_rfl) (by kernel_rfl) (by kernel_rfl) (by exact fun _ _ _ h => h) (Or.inl ⟨by rfl, ?_⟩) (by assumption) ?_); rotate_left; focus (intro wS hSw; (try dsimp only at hSw); go_simp; first | done | with_reducible rfl); try simp only [Act.put, List.setIfInBounds_toArray, List.set_cons_zero, List.set_cons_succ])
    ((refine wpAnyH_take (i := 11) (v := ?_) (by (simp only [List.getElem?_toArray, List.getElem?_cons_succ, List.getElem?_cons_zero]); rfl) (by kernel_rfl) (by kernel_rfl) (by kernel_rfl) (by exact fun _ _ _ h => h) (Or.inl ⟨by rfl, ?_⟩) (by assumption) ?_); rotate_left; focus (intro wS hSw; (try dsimp only at hSw); go_simp; first | done | with_reducible rfl); try simp only [Act.put, List.setIfInBounds_toArray, List.set_cons_zero, List.set_cons_succ])
    refine wpAnyH_done (by kernel_rfl) ?_ _
    try simp only [Act.put, List.setIfInBounds_toArray, List.set_cons_zero, List.set_cons_succ]
    go_upto_region 4 with fail
    rw [← hW2]
    clear hW2 ez q1d
    refine wp_region_held_drew (S := fun X => X.cell? ⟨y, 0, none⟩ = some (.slice a ln c) ∧ X.cell? ⟨y, 1, none⟩ = some (.int .i64 (s2 : Nat))) (by kernel_rfl) ⟨cell_at (HB2.out.step (drew_b W2)) 0, cell_at (HB2.out.step (drew_b W2)) 1⟩ (fun hHeld => ?_)
    ((refine wpAnyH_take (i := 0) (v := ?_) (by (simp only [List.getElem?_toArray, List.getElem?_cons_succ, List.getElem?_cons_zero]); rfl) (by kernel_rfl) (by kernel_rfl) (by kernel_rfl) (by exact fun _ _ _ h => h) (Or.inl ⟨by rfl, ?_⟩) (by assumption) ?_); rotate_left; focus (intro wS hSw; (try dsimp only at hSw); go_simp; first | done | with_reducible rfl); try simp only [Act.put, List.setIfInBounds_toArray, List.set_cons_zero, List.set_cons_succ])
    ((refine wpAnyH_take (i := 1) (v := ?_) (by (simp only [List.getElem?_toArray, List.getElem?_cons_succ, List.getElem?_cons_zero]); rfl) (by kernel_rfl) (by kernel_rfl) (by kernel_rfl) (by exact fun _ _ _ h => h) (Or.inl ⟨by rfl, ?_⟩) (by assumption) ?_); rotate_left; focus (intro wS hSw; (try dsimp only at hSw); go_simp; first | done | with_reducible rfl); try simp only [Act.put, List.setIfInBounds_toArray, List.set_cons_zero, List.set_cons_succ])
    ((refine wpAnyH_take (i := 2) (v := ?_) (by (simp only [List.getElem?_toArray, List.getElem?_cons_succ, List.getElem?_cons_zero]); rfl) (by kernel_rfl) (by kernel_rfl) (by kernel_rfl) (by exact fun _ _ _ h => h) (Or.inl ⟨by rfl, ?_⟩) (by assumption) ?_); rotate_left; focus (intro wS hSw; (try dsimp only at hSw); go_simp; first | done | with_reducible rfl); try simp only [Act.put, List.setIfInBounds_toArray, List.set_cons_zero, List.set_cons_succ])
    ((refine wpAnyH_take (i := 3) (v := ?_) (by (simp only [List.getElem?_toArray, List.getElem?_cons_succ, List.getElem?_cons_zero]); rfl) (by kernel_rfl) (by kernel_rfl) (by kernel_rfl) (by exact fun _ _ _ h => h) (Or.inl ⟨by rfl, ?_⟩) (by assumption) ?_); rotate_left; focus (intro wS hSw; (try dsimp only at hSw); go_simp; first | done | with_reducible rfl); try simp only [Act.put, List.setIfInBounds_toArray, List.set_cons_zero, List.set_cons_succ])
    ((refine wpAnyH_take (i := 4) (v := ?_) (by (simp only [List.getElem?_toArray, List.getElem?_cons_succ, List.getElem?_cons_zero]); rfl) (by kernel_rfl) (by kernel_rfl) (by kernel_rfl) (by exact fun _ _ _ h => h) (Or.inl ⟨by rfl, ?_⟩) (by assumption) ?_); rotate_left; focus (intro wS hSw; (try dsimp only at hSw); go_simp; first | done | with_reducible rfl); try simp only [Act.put, List.setIfInBounds_toArray, List.set_cons_zero, List.set_cons_succ])
    ((refine wpAnyH_take (i := 5) (v := ?_) (by (simp only [List.getElem?_toArray, List.getElem?_cons_succ, List.getElem?_cons_zero]); rfl) (by kernel_rfl) (by kernel_rfl) (by kernel_rfl) (by exact fun _ _ _ h => h) (Or.inl ⟨by rfl, ?_⟩) (by assumption) ?_); rotate_left; focus (intro wS hSw; (try dsimp only at hSw); go_simp; first | done | with_reducible rfl); try simp only [Act.put, List.setIfInBounds_toArray, List.set_cons_zero, List.set_cons_succ])
    ((refine wpAnyH_take (i := 6) (v := ?_) (by (simp only [List.getElem?_toArray, List.getElem?_cons_succ, List.getElem?_cons_zero]); rfl) (by kernel_rfl) (by kernel_rfl) (by kernel_rfl) (by exact fun _ _ _ h => h) (Or.inl ⟨by rfl, ?_⟩) (by assumption) ?_); rotate_left; focus (intro wS hSw; (try dsimp only at hSw); go_simp; first | done | with_reducible rfl); try simp only [Act.put, List.setIfInBounds_toArray, List.set_cons_zero, List.set_cons_succ])
    ((refine wpAnyH_take (i := 7) (v := ?_) (by (simp only [List.getElem?_toArray, List.getElem?_cons_succ, List.getElem?_cons_zero]); rfl) (by kernel_rfl) (by kernel_rfl) (by kernel_rfl) (by exact fun _ _ _ h => h) (Or.inl ⟨by rfl, ?_⟩) (by assumption) ?_); rotate_left; focus (intro wS hSw; (try dsimp only at hSw); go_simp; first | done | with_reducible rfl); try simp only [Act.put, List.setIfInBounds_toArray, List.set_cons_zero, List.set_cons_succ])
    ((refine wpAnyH_take (i := 8) (v := ?_) (by (simp only [List.getElem?_toArray, List.getElem?_cons_succ, List.getElem?_cons_zero]); rfl) (by kernel_rfl) (by kernel_rfl) (by kernel_rfl) (by exact fun _ _ _ h => h) (Or.inl ⟨by rfl, ?_⟩) (by assumption) ?_); rotate_left; focus (intro wS hSw; (try dsimp only at hSw); go_simp; first | done | with_reducible rfl); try simp only [Act.put, List.setIfInBounds_toArray, List.set_cons_zero, List.set_cons_succ])
    ((refine wpAnyH_take (i := 9) (v := ?_) (by (simp only [List.getElem?_toArray, List.getElem?_cons_succ, List.getElem?_cons_zero]); rfl) (by kernel_rfl) (by kernel_rfl) (by kernel_rfl) (by exact fun _ _ _ h => h) (Or.inl ⟨by rfl, ?_⟩) (by assumption) ?_); rotate_left; focus (intro wS hSw; (try dsimp only at hSw); go_simp; first | done | with_reducible rfl); try simp only [Act.put, List.setIfInBounds_toArray, List.set_cons_zero, List.set_cons_succ])
    ((refine wpAnyH_take (i := 10) (v := ?_) (by (simp only [List.getElem?_toArray, List.getElem?_cons_succ, List.getElem?_cons_zero]); rfl) (by kernel_rfl) (by kernel_rfl) (by kernel_rfl) (by exact fun _ _ _ h => h) (Or.inl ⟨by rfl, ?_⟩) (by assumption) ?_); rotate_left; focus (intro wS hSw; (try dsimp only at hSw); go_simp; first | done | with_reducible rfl); try simp only [Act.put, List.setIfInBounds_toArray, List.set_cons_zero, List.set_cons_succ])
    ((refine wpAnyH_take (i := 11) (v := ?_) (by (simp only [List.getElem?_toArray, List.getElem?_cons_succ, List.getElem?_cons_zero]); rfl) (by kernel_rfl) (by kernel_rfl) (by kernel_rfl) (by exact fun _ _ _ h => h) (Or.inl ⟨by rfl, ?_⟩) (by assumption) ?_); rotate_left; focus (intro wS hSw; (try dsimp only at hSw); go_simp; first | done | with_reducible rfl); try simp only [Act.put, List.setIfInBounds_toArray, List.set_cons_zero, List.set_cons_succ])
    ((refine wpAnyH_take (i := 12) (v := ?_) (by (simp only [List.getElem?_toArray, List.getElem?_cons_succ, List.getElem?_cons_zero]); rfl) (by kernel_rfl) (by kernel_rfl) (by kernel_rfl) (by exact fun _ _ _ h => h) (Or.inl ⟨by rfl, ?_⟩) (by assumption) ?_); rotate_left; focus (intro wS hSw; (try dsimp only at hSw); go_simp; first | done | with_reducible rfl); try simp only [Act.put, List.setIfInBounds_toArray, List.set_cons_zero, List.set_cons_succ])
    ((refine wpAnyH_take (i := 13) (v := ?_) (by (simp only [List.getElem?_toArray, List.getElem?_cons_succ, List.getElem?_cons_zero]); rfl) (by kernel_rfl) (by kernel_rfl) (by kernel_rfl) (by exact fun _ _ _ h => h) (Or.inl ⟨by rfl, ?_⟩) (by assumption) ?_); rotate_left; focus (intro wS hSw; (try dsimp only at hSw); go_simp; first | done | with_reducible rfl); try simp only [Act.put, List.setIfInBounds_toArray, List.set_cons_zero, List.set_cons_succ])
    ((refine wpAnyH_take (i := 14) (v := ?_) (by (simp only [List.getElem?_toArray, List.getElem?_cons_succ, List.getElem?_cons_zero]); rfl) (by kernel_rfl) (by kernel_rfl) (by kernel_rfl) (by exact fun _ _ _ h => h) (Or.inl ⟨by rfl, ?_⟩) (by assumption) ?_); rotate_left; focus (intro wS hSw; (try dsimp only at hSw); go_simp; first | done | with_reducible rfl); try simp only [Act.put, List.setIfInBounds_toArray, List.set_cons_zero, List.set_cons_succ])
    ((refine wpAnyH_take (i := 15) (v := ?_) (by (simp only [List.getElem?_toArray, List.getElem?_cons_succ, List.getElem?_cons_zero]); rfl) (by kernel_rfl) (by kernel_rfl) (by kernel_rfl) (by exact fun _ _ _ h => h) (Or.inl ⟨by rfl, ?_⟩) (by assumption) ?_); rotate_left; focus (intro wS hSw; (try dsimp only at hSw); go_simp; first | done | with_reducible rfl); try simp only [Act.put, List.setIfInBounds_toArray, List.set_cons_zero, List.set_cons_succ])
    refine wpAnyH_done (by kernel_rfl) ?_ _
    try simp only [Act.put, List.setIfInBounds_toArray, List.set_cons_zero, List.set_cons_succ]
    try go_wp2_with fail
    try rw [Exit.noGoto_ret]
    exact bodyPost_ret (v := .slice a2 n c2) (by simp [results, Tryd.results112, go_sem]) rfl ⟨HEND.out.1, _, rfl, HEND.out.2⟩
  · skip
    rw [show takeB bs s n = .error ln by unfold takeB; rw [if_neg (by omega), hln]]
    have c1 : ((ln : Int) - (s : Int) < (n : Int)) = True := eq_true (by omega)
    have HF := Lib.hid (below_frA (H := eyeS y lo bs) (drew_b W) (eye_lo hI0) (fun _ _ _ => False))
    have q0d : W.drew.cell? ⟨y, 0, none⟩ = some (.slice a ln c) := cell_at hd 0
    clear hby hbl hln hI0 hb hs hly hlen hle hmx hd q0 q1 hn hc
    go_enter Tryd.func112, Tryd.ntmps112
    go_upto_region 1 with fail
    refine wp_region_held_drew (S := fun X => X.cell? ⟨y, 0, none⟩ = some (.slice a ln c) ∧ X.cell? ⟨y, 1, none⟩ = some (.int .i64 (s : Nat))) (by kernel_rfl) ⟨cell_at HD.out 0, cell_at HD.out 1⟩ (fun hHeld => ?_)
    ((refine wpAnyH_take (i := 0) (v := ?_) (by (simp only [List.getElem?_toArray, List.getElem?_cons_succ, List.getElem?_cons_zero]); rfl) (by kernel_rfl) (by kernel_rfl) (by kernel_rfl) (by exact fun _ _ _ h => h) (Or.inl ⟨by rfl, ?_⟩) (by assumption) ?_); rotate_left; focus (intro wS hSw; (try dsimp only at hSw); go_simp; first | done | with_reducible rfl); try simp only [Act.put, List.setIfInBounds_toArray, List.set_cons_zero, List.set_cons_succ])
    ((refine wpAnyH_take (i := 1) (v := ?_) (by (simp only [List.getElem?_toArray, List.getElem?_cons_succ, List.getElem?_cons_zero]); rfl) (by kernel_rfl) (by kernel_rfl) (by kernel_rfl) (by exact fun _ _ _ h => h) (Or.inl ⟨by rfl, ?_⟩) (by assumption) ?_); rotate_left; focus (intro wS hSw; (try dsimp only at hSw); go_simp; first | done | with_reducible rfl); try simp only [Act.put, List.setIfInBounds_toArray, List.set_cons_zero, List.set_cons_succ])
    ((refine wpAnyH_take (i := 2) (v := ?_) (by (simp only [List.getElem?_toArray, List.getElem?_cons_succ, List.getElem?_cons_zero]); rfl) (by kernel_rfl) (by kernel_rfl) (by kernel_rfl) (by exact fun _ _ _ h => h) (Or.inl ⟨by rfl, ?_⟩) (by assumption) ?_); rotate_left; focus (intro wS hSw; (try dsimp only at hSw); go_simp; first | done | with_reducible rfl); try simp only [Act.put, List.setIfInBounds_toArray, List.set_cons_zero, List.set_cons_succ])
    ((refine wpAnyH_take (i := 3) (v := ?_) (by (simp only [List.getElem?_toArray, List.getElem?_cons_succ, List.getElem?_cons_zero]); rfl) (by kernel_rfl) (by kernel_rfl) (by kernel_rfl) (by exact fun _ _ _ h => h) (Or.inl ⟨by rfl, ?_⟩) (by assumption) ?_); rotate_left; focus (intro wS hSw; (try dsimp only at hSw); go_simp; first | done | with_reducible rfl); try simp only [Act.put, List.setIfInBounds_toArray, List.set_cons_zero, List.set_cons_succ])
    ((refine wpAnyH_take (i := 4) (v := ?_) (by (simp only [List.getElem?_toArray, List.getElem?_cons_succ, List.getElem?_cons_zero]); rfl) (by kernel_rfl) (by kernel_rfl) (by kernel_rfl) (by exact fun _ _ _ h => h) (Or.inl ⟨by rfl, ?_⟩) (by assumption) ?_); rotate_left; focus (intro wS hSw; (try dsimp only at hSw); go_simp; first | done | with_reducible rfl); try simp only [Act.put, List.setIfInBounds_toArray, List.set_cons_zero, List.set_cons_succ])
    ((refine wpAnyH_take (i := 5) (v := ?_) (by (simp only [List.getElem?_toArray, List.getElem?_cons_succ, List.getElem?_cons_zero]); rfl) (by kernel_rfl) (by kernel_rfl) (by kernel_rfl) (by exact fun _ _ _ h => h) (Or.inl ⟨by rfl, ?_⟩) (by assumption) ?_); rotate_left; focus (intro wS hSw; (try dsimp only at hSw); go_simp; first | done | with_reducible rfl); try simp only [Act.put, List.setIfInBounds_toArray, List.set_cons_zero, List.set_cons_succ])
    ((refine wpAnyH_take (i := 6) (v := ?_) (by (simp only [List.getElem?_toArray, List.getElem?_cons_succ, List.getElem?_cons_zero]); rfl) (by kernel_rfl) (by kernel_rfl) (by kernel_rfl) (by exact fun _ _ _ h => h) (Or.inl ⟨by rfl, ?_⟩) (by assumption) ?_); rotate_left; focus (intro wS hSw; (try dsimp only at hSw); go_simp; first | done | with_reducible rfl); try simp only [Act.put, List.setIfInBounds_toArray, List.set_cons_zero, List.set_cons_succ])
    ((refine wpAnyH_take (i := 7) (v := ?_) (by (simp only [List.getElem?_toArray, List.getElem?_cons_succ, List.getElem?_cons_zero]); rfl) (by kernel_rfl) (by kernel_rfl) (by kernel_rfl) (by exact fun _ _ _ h => h) (Or.inl ⟨by rfl, ?_⟩) (by assumption) ?_); rotate_left; focus (intro wS hSw; (try dsimp only at hSw); go_simp; first | done | with_reducible rfl); try simp only [Act.put, List.setIfInBounds_toArray, List.set_cons_zero, List.set_cons_succ])
    ((refine wpAnyH_take (i := 8) (v := ?_) (by (simp only [List.getElem?_toArray, List.getElem?_cons_succ, List.getElem?_cons_zero]); rfl) (by kernel_rfl) (by kernel_rfl) (by kernel_rfl) (by exact fun _ _ _ h => h) (Or.inl ⟨by rfl, ?_⟩) (by assumption) ?_); rotate_left; focus (intro wS hSw; (try dsimp only at hSw); go_simp; first | done | with_reducible rfl); try simp only [Act.put, List.setIfInBounds_toArray, List.set_cons_zero, List.set_cons_succ])
    ((refine wpAnyH_take (i := 9) (v := ?_) (by (simp only [List.getElem?_toArray, List.getElem?_cons_succ, List.getElem?_cons_zero]); rfl) (by kernel_rfl) (by kernel_rfl) (by kernel_rfl) (by exact fun _ _ _ h => h) (Or.inl ⟨by rfl, ?_⟩) (by assumption) ?_); rotate_left; focus (intro wS hSw; (try dsimp only at hSw); go_simp; first | done | with_reducible rfl); try simp only [Act.put, List.setIfInBounds_toArray, List.set_cons_zero, List.set_cons_succ])
    ((refine wpAnyH_take (i := 10) (v := ?_) (by (simp only [List.getElem?_toArray, List.getElem?_cons_succ, List.getElem?_cons_zero]); rfl) (by kernel_rfl) (by kernel_rfl) (by kernel_rfl) (by exact fun _ _ _ h => h) (Or.inl ⟨by rfl, ?_⟩) (by assumption) ?_); rotate_left; focus (intro wS hSw; (try dsimp only at hSw); go_simp; first | done | with_reducible rfl); try simp only [Act.put, List.setIfInBounds_toArray, List.set_cons_zero, List.set_cons_succ])
    ((refine wpAnyH_take (i := 11) (v := ?_) (by (simp only [List.getElem?_toArray, List.getElem?_cons_succ, List.getElem?_cons_zero]); rfl) (by kernel_rfl) (by kernel_rfl) (by kernel_rfl) (by exact fun _ _ _ h => h) (Or.inl ⟨by rfl, ?_⟩) (by assumption) ?_); rotate_left; focus (intro wS hSw; (try dsimp only at hSw); go_simp; first | done | with_reducible rfl); try simp only [Act.put, List.setIfInBounds_toArray, List.set_cons_zero, List.set_cons_succ])
    refine wpAnyH_done (by kernel_rfl) ?_ _
    try simp only [Act.put, List.setIfInBounds_toArray, List.set_cons_zero, List.set_cons_succ]
    go_wp2_with fail
    exact (show _ ∧ _ ∧ _ from ⟨rfl, HF.out, rfl⟩)
end
end Go.Proofs.YtiednacpmlilbaaDoor
