/-
  weirlaw10: what the document says of three asks.
-/
import Derived.Test.YtidheicmaodfgaaVg
namespace Go.Proofs.Ytidheicmaodfgaa
open Go.RowKit

theorem Box.alloc {w W : World} {base term : Int} {v : Value} (q : Box w base term v W) (o : Obj) : Box w base term v (W.alloc o) := q.step ((Below.refl _ _).alloc (Nat.le_refl _) o)

theorem Box.bel {w W : World} {base term : Int} {v : Value} (q : Box w base term v W) : Below w.heap.size w W := q.2.2
theorem Box.set {w W : World} {base term : Int} {v : Value} (q : Box w base term v W) {n j : Nat} {u : Value} (h : w.heap.size < n) : Box w base term v (W.setCell ⟨n, j, none⟩ u) := by
  obtain ⟨⟨q0, q1, q2⟩, q3, q4⟩ := q
  exact ⟨⟨(World.cell?_of_block (a := ⟨w.heap.size, 0, none⟩) (heap_setCell_ne W ⟨n, j, none⟩ u w.heap.size (by simp only; omega))).trans q0, (World.cell?_of_block (a := ⟨w.heap.size, 1, none⟩) (heap_setCell_ne W ⟨n, j, none⟩ u w.heap.size (by simp only; omega))).trans q1, (World.cell?_of_block (a := ⟨w.heap.size, 2, none⟩) (heap_setCell_ne W ⟨n, j, none⟩ u w.heap.size (by simp only; omega))).trans q2⟩, by simpa using q3, q4.setCell (by simp only; omega) _⟩
/-- what a region leaves: a box of a cell -/
def At1 (X : World) (x : Value) (j : Nat) (v : Value) : Prop := ∃ p, x = .pointer (some ⟨p, 0, none⟩) ∧ p < X.heap.size ∧ X.cell? ⟨p, j, none⟩ = some v
theorem At1.step {A B : World} {x v : Value} {j : Nat} (h : At1 A x j v) (hB : Below A.heap.size A B) : At1 B x j v := by
  obtain ⟨p, h1, h2, h3⟩ := h
  exact ⟨p, h1, by have := hB.size; omega, (hB.cell (p := ⟨p, j, none⟩) h2).trans h3⟩

def wT (k : Nat) : Int := if k < 2 then 1 else 2
def wE (k : Nat) : Ent := ⟨wT k, 0, 0, 0, none, 0, 0⟩

theorem vw_a1 : ∀ (a : Option Addr) (cap b : Nat) (w : World), EntsIn w a 5 cap b 0 wE → Calls Try.prog 15 #[.agg #[.int .i64 3, .int .i64 0, .int .i64 0], .agg #[.int .i64 0, .int .i64 0, .slice a (5 : Nat) cap], .int .i64 1, .agg #[.int .i8 1, .int .i64 2, .int .i64 0, .int .i64 3, .int .i64 5, .int .i64 2, .int .i64 0, .bool false, .slice none 0 0, .int .i64 0, .int .i64 0, .int .u8 0, .slice none 0 0, .slice none 0 0]] w fun e w' => e = .returned (.tuple #[.agg #[.int .i64 3, .int .i64 2, .int .i64 0], .agg #[.int .i8 2, .int .i64 1, .int .i64 2, .int .i64 3, .int .i64 0, .int .i64 0, .int .i64 0, .bool true, .slice none 0 0, .int .i64 0, .int .i64 0, .int .u8 0, .slice none 0 0, .slice none 0 0], .int .i64 0]) ∧ Below w.heap.size w w' :=
  fun a cap b w h => answer_any 3 0 0 0 0 1 a 5 cap b 0 wE 1 2 0 3 5 2 0 false none 0 0 0 0 0 none 0 0 none 0 0 w h ⟨0, 3, 2, 0, 2, 1, 2, 3, true⟩ (by kernel_rfl)
theorem vw_a2 : ∀ (a : Option Addr) (cap b : Nat) (w : World), EntsIn w a 5 cap b 0 wE → Calls Try.prog 15 #[.agg #[.int .i64 3, .int .i64 0, .int .i64 0], .agg #[.int .i64 0, .int .i64 0, .slice a (5 : Nat) cap], .int .i64 1, .agg #[.int .i8 1, .int .i64 2, .int .i64 0, .int .i64 3, .int .i64 9, .int .i64 1, .int .i64 0, .bool false, .slice none 0 0, .int .i64 0, .int .i64 0, .int .u8 0, .slice none 0 0, .slice none 0 0]] w fun e w' => e = .returned (.tuple #[.agg #[.int .i64 3, .int .i64 0, .int .i64 0], .agg #[.int .i8 2, .int .i64 1, .int .i64 2, .int .i64 3, .int .i64 0, .int .i64 0, .int .i64 0, .bool false, .slice none 0 0, .int .i64 0, .int .i64 0, .int .u8 0, .slice none 0 0, .slice none 0 0], .int .i64 0]) ∧ Below w.heap.size w w' :=
  fun a cap b w h => answer_any 3 0 0 0 0 1 a 5 cap b 0 wE 1 2 0 3 9 1 0 false none 0 0 0 0 0 none 0 0 none 0 0 w h ⟨0, 3, 0, 0, 2, 1, 2, 3, false⟩ (by kernel_rfl)
theorem vw_a3 : ∀ (a : Option Addr) (cap b : Nat) (w : World), EntsIn w a 5 cap b 0 wE → Calls Try.prog 15 #[.agg #[.int .i64 3, .int .i64 1, .int .i64 0], .agg #[.int .i64 0, .int .i64 0, .slice a (5 : Nat) cap], .int .i64 1, .agg #[.int .i8 1, .int .i64 2, .int .i64 0, .int .i64 4, .int .i64 5, .int .i64 2, .int .i64 0, .bool false, .slice none 0 0, .int .i64 0, .int .i64 0, .int .u8 0, .slice none 0 0, .slice none 0 0]] w fun e w' => e = .returned (.tuple #[.agg #[.int .i64 4, .int .i64 2, .int .i64 0], .agg #[.int .i8 2, .int .i64 1, .int .i64 2, .int .i64 4, .int .i64 0, .int .i64 0, .int .i64 0, .bool true, .slice none 0 0, .int .i64 0, .int .i64 0, .int .u8 0, .slice none 0 0, .slice none 0 0], .int .i64 0]) ∧ Below w.heap.size w w' :=
  fun a cap b w h => answer_any 3 1 0 0 0 1 a 5 cap b 0 wE 1 2 0 4 5 2 0 false none 0 0 0 0 0 none 0 0 none 0 0 w h ⟨0, 4, 2, 0, 2, 1, 2, 4, true⟩ (by kernel_rfl)

def seqR : Code → Code
  | .seq _ b => b
  | c => c
def codeOf (f : Func) : Code := f.body.getD .ret
set_option maxRecDepth 100000 in
set_option maxHeartbeats 60000000 in
theorem vw_t4 (w W V : World) (a : Option Addr) (cap b p1 q1 : Nat) (HE : Hid (EntsIn W a 5 cap b 0 wE)) (BW : Hid (Below w.heap.size w W)) (cur : Box W 0 0 (.slice a (5 : Nat) cap) V) (P1 : Hid (p1 < V.heap.size ∧ V.cell? ⟨p1, 1, none⟩ = some (.int .i64 2) ∧ q1 < V.heap.size ∧ V.cell? ⟨q1, 7, none⟩ = some (.bool true))) (q2 : Nat) (P2 : Hid (q2 < V.heap.size ∧ V.cell? ⟨q2, 7, none⟩ = some (.bool false))) (u5 u7 u8 u9 u10 u11 u12 u13 u14 u15 u16 u17 u18 u19 u20 u21 u22 u23 u24 u25 u26 u27 u28 u29 u30 u31 u32 u33 u34 u35 u36 u37 u38 u39 u40 u41 u42 u43 u44 u45 u46 u47 u48 u49 u50 u51 u52 u53 u54 u55 u56 u57 u58 u59 u60 u61 u62 u63 u64 u65 u66 : Value) :
    Code.wp Try.prog (seqR (seqR (seqR (seqR (codeOf Try.f11))))) (bodyPost Try.prog Try.f11 fun e w' => e = .returned (.bool true) ∧ Below w.heap.size w w') { tmps := List.toArray (.bool false :: .pointer (some ⟨W.heap.size, 0, none⟩) :: .pointer (some ⟨p1, 0, none⟩) :: .pointer (some ⟨q1, 0, none⟩) :: .int .i64 0 :: u5 :: .pointer (some ⟨q2, 0, none⟩) :: u7 :: u8 :: u9 :: u10 :: u11 :: u12 :: u13 :: u14 :: u15 :: u16 :: u17 :: u18 :: u19 :: u20 :: u21 :: u22 :: u23 :: u24 :: u25 :: u26 :: u27 :: u28 :: u29 :: u30 :: u31 :: u32 :: u33 :: u34 :: u35 :: u36 :: u37 :: u38 :: u39 :: u40 :: u41 :: u42 :: u43 :: u44 :: u45 :: u46 :: u47 :: u48 :: u49 :: u50 :: u51 :: u52 :: u53 :: u54 :: u55 :: u56 :: u57 :: u58 :: u59 :: u60 :: u61 :: u62 :: u63 :: u64 :: u65 :: u66 :: []), defers := [] } V := by
  change Code.wp _ (Code.seq (Code.region 4 _ _) _) _ { tmps := List.toArray (.bool false :: .pointer (some ⟨W.heap.size, 0, none⟩) :: .pointer (some ⟨p1, 0, none⟩) :: .pointer (some ⟨q1, 0, none⟩) :: .int .i64 0 :: u5 :: .pointer (some ⟨q2, 0, none⟩) :: u7 :: u8 :: u9 :: u10 :: u11 :: u12 :: u13 :: u14 :: u15 :: u16 :: u17 :: u18 :: u19 :: u20 :: u21 :: u22 :: u23 :: u24 :: u25 :: u26 :: u27 :: u28 :: u29 :: u30 :: u31 :: u32 :: u33 :: u34 :: u35 :: u36 :: u37 :: u38 :: u39 :: u40 :: u41 :: u42 :: u43 :: u44 :: u45 :: u46 :: u47 :: u48 :: u49 :: u50 :: u51 :: u52 :: u53 :: u54 :: u55 :: u56 :: u57 :: u58 :: u59 :: u60 :: u61 :: u62 :: u63 :: u64 :: u65 :: u66 :: []), defers := [] } V
  go_upto_region 4 with fail
  obtain ⟨⟨f0, f1, f2⟩, f3, f4⟩ := id cur
  have AA : Hid (∀ X, Below W.heap.size W X → _) := Lib.hid (fun X hX => vw_a3 a cap b X (HE.out.below hX))
  go_cut [8, 9] (fun x y wx => At1 wx x 0 (.int .i64 4) ∧ At1 wx x 1 (.int .i64 2) ∧ At1 wx y 7 (.bool true) ∧ Below V.heap.size V wx)
  case first =>
    clear HE
    have hVW : W.heap.size < V.heap.size := f3
    have g1 : (W.heap.size = V.heap.size) = False := eq_false (by omega)
    have g2 : (V.heap.size = W.heap.size) = False := eq_false (by omega)
    have g3 : (W.heap.size = V.heap.size + 1) = False := eq_false (by omega)
    have g4 : (V.heap.size + 1 = W.heap.size) = False := eq_false (by omega)
    have g5 : (W.heap.size = V.heap.size + 1 + 1) = False := eq_false (by omega)
    have g7 : (W.heap.size = V.heap.size + 2) = False := eq_false (by omega)
    have g8 : (V.heap.size + 2 = W.heap.size) = False := eq_false (by omega)
    have k1 : W.heap.size < V.heap.size + 1 := by omega
    have k2 : W.heap.size < V.heap.size + 1 + 1 := by omega
    have k3 : W.heap.size < V.heap.size + 1 + 1 + 1 := by omega
    have g6 : (V.heap.size + 1 + 1 = W.heap.size) = False := eq_false (by omega)
    go_region_held3 (fun X => X.cell? ⟨W.heap.size, 0, none⟩ = some (.int .i64 0) ∧ X.cell? ⟨W.heap.size, 1, none⟩ = some (.int .i64 0) ∧ X.cell? ⟨W.heap.size, 2, none⟩ = some (.slice a (5 : Nat) cap)) (first | with_reducible exact ⟨f0, f1, f2⟩ | (refine ⟨?_, ?_, ?_⟩ <;> go_simp <;> done) | go_keep)
      (first
      | (go_at_call 27; refine (ask_any _ _ _ _).mono ?_; rintro e X ⟨rfl, rfl⟩)
      | (go_at_call 15; refine Calls.mono (AA.out _ ?_) ?_; (first | with_reducible exact (cur.alloc _).drew.bel | with_reducible exact ((cur.alloc _).alloc _).drew.bel | with_reducible exact (((cur.alloc _).alloc _).alloc _).drew.bel); rintro e X ⟨rfl, hX⟩; have hc2 : Box W 0 0 (.slice a (5 : Nat) cap) X := (by first | with_reducible exact (cur.alloc _).step (below_undrew hX) | with_reducible exact ((cur.alloc _).alloc _).step (below_undrew hX) | with_reducible exact (((cur.alloc _).alloc _).alloc _).step (below_undrew hX)); have hV2 : Below V.heap.size V X := (by first | with_reducible exact ((Below.refl _ _).alloc (Nat.le_refl _) _).trans ((below_undrew hX).mono (by simp)) | with_reducible exact (((Below.refl _ _).alloc (Nat.le_refl _) _).alloc (by simp) _).trans ((below_undrew hX).mono (by simp; omega)) | with_reducible exact ((((Below.refl _ _).alloc (Nat.le_refl _) _).alloc (by simp) _).alloc (by simp; omega) _).trans ((below_undrew hX).mono (by simp; omega))); have hz2 := hV2.size; obtain ⟨⟨f0, f1, f2⟩, f3, f4⟩ := id hc2; have hb4 : (W.heap.size = X.heap.size) = False := eq_false (by omega); have hb5 : (X.heap.size = W.heap.size) = False := eq_false (by omega);
          (first
           | (have T := tw3 (n := V.heap.size) (below_undrew hX) rfl; obtain ⟨⟨a1, b1, l1⟩, ⟨a2, b2, l2⟩, ⟨a3, b3, l3⟩⟩ := T; have k4 : W.heap.size < X.heap.size + 1 := (by omega); have k5 : W.heap.size < X.heap.size + 1 + 1 := (by omega); have e0 : (V.heap.size = X.heap.size) = False := eq_false (by omega); have e1 : (V.heap.size + 1 = X.heap.size) = False := eq_false (by omega); have e2 : (V.heap.size + 1 + 1 = X.heap.size) = False := eq_false (by omega))
           | (have T := tw2 (n := V.heap.size) (below_undrew hX) rfl; obtain ⟨⟨a1, b1, l1⟩, ⟨a2, b2, l2⟩⟩ := T; have k4 : W.heap.size < X.heap.size + 1 := (by omega); have k5 : W.heap.size < X.heap.size + 1 + 1 := (by omega); have e0 : (V.heap.size = X.heap.size) = False := eq_false (by omega); have e1 : (V.heap.size + 1 = X.heap.size) = False := eq_false (by omega))
           | (have T := tw1 (n := V.heap.size) (below_undrew hX) rfl; obtain ⟨a1, b1, l1⟩ := T; have k4 : W.heap.size < X.heap.size + 1 := (by omega); have k5 : W.heap.size < X.heap.size + 1 + 1 := (by omega); have e0 : (V.heap.size = X.heap.size) = False := eq_false (by omega)))))
    all_goals
      go_wp2_with fail
      go_meet
      refine ⟨⟨_, rfl, by first | (simp; done) | (simp; omega), by go_simp⟩, ⟨_, rfl, by first | (simp; done) | (simp; omega), by go_simp⟩, ⟨_, rfl, by first | (simp; done) | (simp; omega), by go_simp⟩, ?_⟩
      (repeat (first | with_reducible exact hV2 | with_reducible refine Below.drew ?_ | ((with_reducible refine Below.alloc ?_ ?_ _); (rotate_left; first | omega | (simp; done) | (simp; omega))) | ((with_reducible refine Below.setCell ?_ ?_ _); (rotate_left; first | omega | (simp only; omega) | (simp; omega)))))
  case rest =>
    obtain ⟨hx, hx', hy, hB⟩ := hcut
    have cur := cur.step hB
    obtain ⟨p3, rfl, hp3, cp3⟩ := hx
    obtain ⟨p4, hpe, hp4, cp4⟩ := hx'
    obtain rfl : p3 = p4 := by simpa using hpe
    obtain ⟨q3, rfl, hq3, cq3⟩ := hy
    have d1 := (hB.cell (p := ⟨p1, 1, none⟩) P1.out.1).trans P1.out.2.1
    have d2 := (hB.cell (p := ⟨q1, 7, none⟩) P1.out.2.2.1).trans P1.out.2.2.2
    have d3 := (hB.cell (p := ⟨q2, 7, none⟩) P2.out.1).trans P2.out.2
    have hfin := BW.out.trans (cur.bel.mono BW.out.size)
    have HF := Lib.hid hfin
    clear AA f0 f1 f2 f3 f4 hB hfin hpe
    go_wp2_with fail
    go_ret
    exact ⟨rfl, HF.out⟩
end Go.Proofs.Ytidheicmaodfgaa
