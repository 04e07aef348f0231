/-
  told, over a queue with packets.
-/
import Derived.Test.YtninhjeiialbjaaPll
namespace Go.Proofs.Ytninhjeiialbjaa
open Go.RowKit Go.Shelf
set_option linter.unusedSimpArgs false
set_option linter.unusedVariables false

attribute [local go_sem] Oper.semAt_some

theorem GAll.frB {Bs : Nat} {v : Value} {ob : Option Nat} {n : Nat} {E : Nat → PkE} {W W' : World} {m : Nat} {l : List Nat} (h : GAll Bs v ob n E W) (hF : FrB m l W W') (h1 : Bs < m ∧ Bs ∉ l) (h2 : ∀ g, ob = some g → g < m ∧ g ∉ l) (h3 : ∀ j, j < n → 0 < (E j).n → (E j).b < m ∧ (E j).b ∉ l) : GAll Bs v ob n E W' :=
  ⟨(hF.block Bs h1.1 h1.2).trans h.box, h.row.congr (fun g hg => hF.block g (h2 g hg).1 (h2 g hg).2), fun j hj => by
    have hx := h.ld j hj
    exact ⟨hx.le, hx.max, fun hk => ⟨(hx.at_ hk).1, by have := (hx.at_ hk).2; have := hF.size; omega⟩, fun k hk => (cell_congr (hF.block _ (h3 j hj (by omega)).1 (h3 j hj (by omega)).2) _).trans (hx.cell k hk), hx.bd⟩, h.le⟩

theorem RQ.cells {W : World} {D : Nat} {room : Int} {n : Nat} {lost : Int} {ob : Option Nat} {v : Value} {E : Nat → PkE} (h : RQ W D room n lost ob v E) (hn : 0 < n) : ∃ g off cap, v = .slice (some ⟨g, off, none⟩) n cap ∧ ob = some g ∧ n ≤ cap ∧ g < W.heap.size ∧ ∀ j, j < n → ∀ i, i < 4 → W.cell? ⟨g, off + j * 4 + i, none⟩ = (E j).cells[i]? := by
  rcases h.row.2 with ⟨h1, h2, h3⟩ | ⟨g, off, cap, cur, h1, h2, h3, h4, h5, h6, h7⟩
  · omega
  · refine ⟨g, off, cap, h1, h2, h4, h3.lt, fun j hj i hi => ?_⟩
    rw [cell_at h3, Nat.add_assoc, h7 (j * 4 + i) (by omega), pL_at E n j i hj hi]

theorem PkE.sim_trans {x y z : PkE} (h : x.sim y) (k : y.sim z) : x.sim z :=
  ⟨h.1.trans k.1, h.2.1.trans k.2.1, h.2.2.1.trans k.2.2.1, h.2.2.2.1.trans k.2.2.2.1, fun j hj => (h.2.2.2.2 j hj).trans (k.2.2.2.2 j (by have := h.2.2.2.1; omega))⟩

/-- what telling keeps -/
def ToldI (w : World) (N : Nat) (v : Value) (leave : Int) (pre : List PkE) (W : World) : Prop :=
  Blk W N #[v] 68 ∧ Blk W (N + 1) #[.int .i64 leave] 3 ∧ Blk W (N + 1 + 1) #[.bool false] 4 ∧ Blk W (N + 1 + 1 + 1) #[.int .i64 (pre.length : Nat)] 3 ∧ Below N w W

set_option maxRecDepth 100000 in
set_option maxHeartbeats 8000000 in
theorem told_any (D R o room f n : Nat) (dr : Int) (D2 : Nat) (ob : Option Nat) (v : Value) (E F : Nat → PkE) (leave : Int) (w : World) (h : JQ w D R o room f n dr D2 ob v E F) :
    Calls Try.prog 42 #[.pointer (some ⟨D, 0, none⟩), v, .int .i64 leave] w fun e w' => e = .returned (.bool true) ∧ Below w.heap.size w w' := by
  refine (callsIn_wide (n := 9)).1 ?_
  have hnf : ∀ (fn : Fn) (first cap : Array Value) (w : World), (binOp .eql 116 (.func fn first cap) .nilFunc).run Try.prog w = .ok (.bool false) w := fun _ _ _ _ => rfl
  have hn64 : n ≤ 64 := Nat.le_trans h.q.nl h.q.r64
  obtain ⟨sa, cap, rfl, sh1, sh2⟩ := h.r.shape
  obtain ⟨N, hN⟩ : ∃ N, N = w.heap.size := ⟨_, rfl⟩
  obtain ⟨W1, hW1⟩ : ∃ W1, W1 = (((w.alloc (.cells #[.slice sa n cap] 68)).alloc (.cells #[.int .i64 leave] 3)).alloc (.cells #[.bool false] 4)).alloc (.cells #[.int .i64 0] 3) := ⟨_, rfl⟩
  have hs1 : W1.heap.size = N + 4 := by rw [hW1, hN]; simp
  have hB1 : Below N w W1 := by rw [hW1, hN]; exact ((((Below.refl _ _).alloc (Nat.le_refl _) _).alloc (by simp) _).alloc (by simp; omega) _).alloc (by simp; omega) _
  have bx : ∀ (A : World) (k : Nat) (hk : A.heap.size = k) (cs : Array Value) (t : TypeId), Blk (A.alloc (.cells cs t)) k cs t := fun A k hk cs t => by rw [← hk]; exact blk_new _ _ _
  have b0 : Blk W1 N #[.slice sa n cap] 68 := by rw [hW1, hN]; exact (((blk_new _ _ _).alloc _).alloc _).alloc _
  have b1 : Blk W1 (N + 1) #[.int .i64 leave] 3 := by rw [hW1]; exact ((bx _ _ (by simp [hN]) _ _).alloc _).alloc _
  have b2 : Blk W1 (N + 1 + 1) #[.bool false] 4 := by rw [hW1]; exact (bx _ _ (by simp [hN]) _ _).alloc _
  have b3 : Blk W1 (N + 1 + 1 + 1) #[.int .i64 0] 3 := by rw [hW1]; exact bx _ _ (by simp [hN]) _ _
  have HB0 := Lib.hid b0
  have HB1 := Lib.hid b1
  have HB2 := Lib.hid b2
  have HB3 := Lib.hid b3
  have HBW := Lib.hid hB1
  have HJ := Lib.hid h
  have HA := Lib.hid (qall_any D R o room f n _ dr E W1 (h.q.below (hN ▸ hB1)))
  rw [hW1] at HA
  have HN := Lib.hid hN
  have HS1 := Lib.hid hs1
  have HSH := Lib.hid sh1
  clear h b0 b1 b2 b3 hB1 bx sh1
  refine callsIn_of_wp_marks Try.func42 rfl trivial ?_ rfl
  simp only [Try.ntmps42, List.size_toArray, List.length_cons, List.length_nil, Nat.reduceAdd, Nat.reduceSub, Array.replicate_succ, Array.replicate_zero, List.push_toArray, List.append_toArray, List.nil_append, List.cons_append]
  gi_wp2_with (first
    | (refine ⟨trivial, ?_⟩; gi_at_call 76; refine (callsIn_wide.2 HA.out).mono ?_; rintro e W0 ⟨rfl, hg, hB⟩; have HG := Lib.hid hg; have HB := Lib.hid hB; clear hg hB)
    | fail)
  rw [← hW1, hs1] at HG HB
  rw [← hN]
  clear hN hW1 HA
  obtain ⟨u, obA, g1, g2, g3⟩ := HG.out
  have hz0 : N + 4 < W0.heap.size := g1.lt
  have hB0 : Below N w W0 := HBW.out.trans (HB.out.mono (by omega))
  have hB0' : Below w.heap.size w W0 := HN.out ▸ hB0
  have hNW : ∀ k, k < N → k < W0.heap.size := fun k hk => by omega
  have hLb : ∀ j, j < n → 0 < (E j).n → (E j).b < N := fun j hj h0 => by rw [HN.out]; exact ((HJ.out.q.ld j hj).by_.at_ h0).2
  have hgA : ∀ g, obA = some g → g < W0.heap.size := fun g hg => by subst hg; exact g2.lt
  have hGA : GAll (N + 1 + 1 + 1 + 1) u obA n E W0 := ⟨g1, g2, fun j hj => (HJ.out.q.ld j hj).by_.below hB0', fun j hj => (HJ.out.q.ld j hj).le⟩
  have hrow : ∀ j, j < n → ∃ g off cp, sa = some ⟨g, off, none⟩ ∧ g < N ∧ n ≤ cp ∧ ∀ W, Below N w W → (∀ i, i < 4 → W.cell? ⟨g, off + j * 4 + i, none⟩ = (F j).cells[i]?) ∧ g < W.heap.size := fun j hj => by
    obtain ⟨g, off, cp, e1, e2, e3, e4, e5⟩ := HJ.out.r.cells (by omega)
    injection e1 with e1 _ _
    refine ⟨g, off, cp, e1, by rw [HN.out]; exact e4, e3, fun W hW => ⟨fun i hi => ((HN.out ▸ hW : Below w.heap.size w W).cell (p := ⟨g, _, none⟩) e4).trans (e5 j hj i hi), by have := hW.size; omega⟩⟩
  have HROW := Lib.hid hrow
  have i0 : ToldI w N (.slice sa n cap) leave [] W0 := ⟨(HB.out.block N (by omega)).trans HB0.out, (HB.out.block _ (by omega)).trans HB1.out, (HB.out.block _ (by omega)).trans HB2.out, (HB.out.block _ (by omega)).trans HB3.out, hB0⟩
  have I0 := Lib.hid i0
  have HGA := Lib.hid hGA
  clear HG HB HB0 HB1 HB2 HB3 HBW g1 g2 hB0' i0 hGA hrow
  refine range_F (by omega) (gf := 107) (lb := #[.pointer (some ⟨N + 1 + 1 + 1 + 1, 0, none⟩)]) rfl (enters_of Try.func107 (by kernel_rfl) rfl) [N + 1 + 1 + 1]
    (all1_seqF 8 (by omega) (N + 1 + 1 + 1 + 1) n u obA E HGA.out (fun A B hF hg => hg.frB hF ⟨by omega, by simp; omega⟩ (fun g hg => ⟨by have := hgA g hg; omega, by have := g3 g hg; have := hgA g hg; simp; omega⟩) (fun j hj h0 => by have := hLb j hj h0; exact ⟨by omega, by simp; omega⟩)) (fun A B hF => hF.size)) (fun _ => rfl)
    (ToldI w N (.slice sa n cap) leave) (fun c pre W => c = .exit 0 ∧ ToldI w N (.slice sa n cap) leave pre W ∧ ((pre.length : Nat) : Int) = leave)
    ?s1 ?s2 ?s3 (by simp; omega) (by simp; omega) I0.out ?rnd ?dn ?st
  case s1 =>
    rintro s A B ⟨q0, q1, q2, q3, q4⟩ hB
    exact ⟨q0.step hB, q1.step hB, q2.step hB, q3.step hB, q4.trans (hB.mono (by have := q3.lt; omega))⟩
  case s2 =>
    rintro s A o ⟨q0, q1, q2, q3, q4⟩ hlt
    exact ⟨(World.putObj_heap_other (by omega)).trans q0, (World.putObj_heap_other (by omega)).trans q1, (World.putObj_heap_other (by omega)).trans q2, (World.putObj_heap_other (by omega)).trans q3, q4.trans ⟨rfl, rfl, rfl, by simp, fun k hk => World.putObj_heap_other (by omega)⟩⟩
  case s3 =>
    rintro c s A o ⟨rfl, ⟨q0, q1, q2, q3, q4⟩, e⟩ hlt
    exact ⟨rfl, ⟨(World.putObj_heap_other (by omega)).trans q0, (World.putObj_heap_other (by omega)).trans q1, (World.putObj_heap_other (by omega)).trans q2, (World.putObj_heap_other (by omega)).trans q3, q4.trans ⟨rfl, rfl, rfl, by simp, fun k hk => World.putObj_heap_other (by omega)⟩⟩, e⟩
  case rnd =>
    rintro pre x W hI hx hlen hltW
    have HX := Lib.hid hx
    have HI := Lib.hid hI
    clear hI hx
    dsimp only [encPk]
    gi_wp2_with fail
    obtain ⟨WA, hWA⟩ : ∃ WA, WA = W.alloc (.cells #[.int .i64 x.num, .int .i64 x.t, .int .i64 x.c, .slice x.a x.n x.ca] 57) := ⟨_, rfl⟩
    have hBA : Below W.heap.size W WA := by rw [hWA]; exact (Below.refl _ _).alloc (Nat.le_refl _) _
    obtain ⟨M, hM⟩ : ∃ M, M = W.heap.size := ⟨_, rfl⟩
    have hxA : Blk WA M #[.int .i64 x.num, .int .i64 x.t, .int .i64 x.c, .slice x.a x.n x.ca] 57 := by rw [hWA, hM]; exact blk_new _ _ _
    rw [← hWA, ← hM]
    refine ⟨by rw [hM]; exact hBA, fun o => ?_⟩
    obtain ⟨WX, hWX⟩ : ∃ WX, WX = WA.putObj (W0.heap.size + 1) o := ⟨_, rfl⟩
    have hput : ∀ k, k ≠ W0.heap.size + 1 → WX.heap[k]? = WA.heap[k]? := fun k hk => by rw [hWX]; exact World.putObj_heap_other hk
    have hIX : ToldI w N (.slice sa n cap) leave pre WX := by
      obtain ⟨q0, q1, q2, q3, q4⟩ := HI.out
      exact ⟨(hput _ (by omega)).trans (q0.step hBA), (hput _ (by omega)).trans (q1.step hBA), (hput _ (by omega)).trans (q2.step hBA), (hput _ (by omega)).trans (q3.step hBA), (q4.trans (hBA.mono (by omega))).trans (by rw [hWX]; exact ⟨rfl, rfl, rfl, by simp, fun k hk => World.putObj_heap_other (by omega)⟩)⟩
    have hxX : Blk WX M #[.int .i64 x.num, .int .i64 x.t, .int .i64 x.c, .slice x.a x.n x.ca] 57 := (hput _ (by omega)).trans hxA
    have hlx : ByIn WX x.a x.n x.ca x.b x.o x.X := by
      have h1 := HX.out.2.1.below hBA
      exact ⟨h1.le, h1.max, fun hk => ⟨(h1.at_ hk).1, by have := (h1.at_ hk).2; rw [hWX]; simpa using this⟩, fun j hj => (cell_congr (hput x.b (by have := HX.out.2.2 (by omega); omega)) _).trans (h1.cell j hj), h1.bd⟩
    have hsX : W0.heap.size + 1 < WX.heap.size := by rw [hWX]; have := hBA.size; simp; omega
    rw [← hWX]
    have hMN : W0.heap.size + 1 < M := by rw [hM]; omega
    clear hWX HI hWA hBA hM hxA hput
    obtain ⟨q0, q1, q2, q3, q4⟩ := hIX
    obtain ⟨L, hL⟩ : ∃ L, L = pre.length := ⟨_, rfl⟩
    have hLn : L < n := by omega
    obtain ⟨g, off, cp, rfl, hgN, hcp, hcell⟩ := HROW.out L hLn
    obtain ⟨hcell, hglt⟩ := hcell WX q4
    obtain ⟨y, hy⟩ : ∃ y, y = F L := ⟨_, rfl⟩
    have hly : ByIn WX y.a y.n y.ca y.b y.o y.X := by rw [hy]; exact (HJ.out.r.ld L hLn).below (HN.out ▸ q4)
    have hsame : sameP x y = true := sameP_sim (PkE.sim_trans HX.out.1 (by rw [hy, ← hL]; exact HJ.out.sim L hLn))
    rw [← hy] at hcell
    rw [← hL] at q3
    have c0 : WX.cell? ⟨N, 0, none⟩ = some (.slice (some ⟨g, off, none⟩) n cap) := cell_at q0 0
    have c1 : WX.cell? ⟨N + 1, 0, none⟩ = some (.int .i64 leave) := cell_at q1 0
    have c3 : WX.cell? ⟨N + 1 + 1 + 1, 0, none⟩ = some (.int .i64 (L : Nat)) := cell_at q3 0
    have x0 : WX.cell? ⟨M, 0, none⟩ = some (.int .i64 x.num) := cell_at hxX 0
    have x1 : WX.cell? ⟨M, 1, none⟩ = some (.int .i64 x.t) := cell_at hxX 1
    have x2 : WX.cell? ⟨M, 2, none⟩ = some (.int .i64 x.c) := cell_at hxX 2
    have x3 : WX.cell? ⟨M, 3, none⟩ = some (.slice x.a x.n x.ca) := cell_at hxX 3
    have y0 : WX.cell? ⟨g, off + L * 4, none⟩ = some (.int .i64 y.num) := hcell 0 (by omega)
    have y1 : WX.cell? ⟨g, off + L * 4 + 1, none⟩ = some (.int .i64 y.t) := hcell 1 (by omega)
    have y2 : WX.cell? ⟨g, off + L * 4 + 2, none⟩ = some (.int .i64 y.c) := hcell 2 (by omega)
    have y3 : WX.cell? ⟨g, off + L * 4 + 3, none⟩ = some (.slice y.a y.n y.ca) := hcell 3 (by omega)
    have HSM := Lib.hid (rsame_any x y WX.drew (hlx.below ((Below.refl _ _).drew : Below WX.heap.size WX WX.drew)) (hly.below ((Below.refl _ _).drew : Below WX.heap.size WX WX.drew)))
    rw [hsame] at HSM
    have HQ0 := Lib.hid q0
    have HQ1 := Lib.hid q1
    have HQ2 := Lib.hid q2
    have HQ3 := Lib.hid q3
    have HQ4 := Lib.hid q4
    have HXX := Lib.hid hxX
    have HCY := Lib.hid hcell
    have HL := Lib.hid hL
    have hge : decide (n ≤ L) = false := by simp; omega
    have l0 := q0.lt
    have l1 := q1.lt
    have l3 := q3.lt
    have l4 := hxX.lt
    clear q0 q1 q2 q3 q4 hcell hlx hly hsame hy hL hxX
    gi_wp2_with fail
    refine wpIn_region_held (S := fun X => X.cell? ⟨N, 0, none⟩ = some (.slice (some ⟨g, off, none⟩) n cap) ∧ X.cell? ⟨N + 1 + 1 + 1, 0, none⟩ = some (.int .i64 (L : Nat)) ∧ X.cell? ⟨M, 0, none⟩ = some (.int .i64 x.num) ∧ X.cell? ⟨M, 1, none⟩ = some (.int .i64 x.t) ∧ X.cell? ⟨M, 2, none⟩ = some (.int .i64 x.c) ∧ X.cell? ⟨M, 3, none⟩ = some (.slice x.a x.n x.ca) ∧ X.cell? ⟨g, off + L * 4, none⟩ = some (.int .i64 y.num) ∧ X.cell? ⟨g, off + L * 4 + 1, none⟩ = some (.int .i64 y.t) ∧ X.cell? ⟨g, off + L * 4 + 2, none⟩ = some (.int .i64 y.c) ∧ X.cell? ⟨g, off + L * 4 + 3, none⟩ = some (.slice y.a y.n y.ca) ∧ N < X.heap.size ∧ N + 1 + 1 + 1 < X.heap.size ∧ M < X.heap.size ∧ g < X.heap.size) (by kernel_rfl) (fun hHeld => ?_) ⟨c0, c3, x0, x1, x2, x3, y0, y1, y2, y3, l0, l3, l4, hglt⟩
    ((refine wpAnyK_take (i := 0) (v := ?_) (by kernel_rfl) (by (simp only [List.getElem?_toArray, List.getElem?_cons_succ, List.getElem?_cons_zero]); rfl) (by kernel_rfl) (by kernel_rfl) (by kernel_rfl) (by exact fun _ _ _ h => h) ⟨Or.inl ⟨by rfl, ?_⟩, fun _ => rfl⟩ (by assumption) ?_); rotate_left; focus (intro wS hSw; (try dsimp only at hSw); go_simp; first | done | with_reducible rfl); try simp only [Act.put, List.setIfInBounds_toArray, List.set_cons_zero, List.set_cons_succ])
    ((refine wpAnyK_take (i := 1) (v := ?_) (by kernel_rfl) (by (simp only [List.getElem?_toArray, List.getElem?_cons_succ, List.getElem?_cons_zero]); rfl) (by kernel_rfl) (by kernel_rfl) (by kernel_rfl) (by exact fun _ _ _ h => h) ⟨Or.inl ⟨by rfl, ?_⟩, fun _ => rfl⟩ (by assumption) ?_); rotate_left; focus (intro wS hSw; (try dsimp only at hSw); go_simp; first | done | with_reducible rfl); try simp only [Act.put, List.setIfInBounds_toArray, List.set_cons_zero, List.set_cons_succ])
    ((refine wpAnyK_take (i := 2) (v := ?_) (by kernel_rfl) (by (simp only [List.getElem?_toArray, List.getElem?_cons_succ, List.getElem?_cons_zero]); rfl) (by kernel_rfl) (by kernel_rfl) (by kernel_rfl) (by exact fun _ _ _ h => h) ⟨Or.inl ⟨by rfl, ?_⟩, fun _ => rfl⟩ (by assumption) ?_); rotate_left; focus (intro wS hSw; (try dsimp only at hSw); go_simp; first | done | with_reducible rfl); try simp only [Act.put, List.setIfInBounds_toArray, List.set_cons_zero, List.set_cons_succ])
    ((refine wpAnyK_take (i := 3) (v := ?_) (by kernel_rfl) (by (simp only [List.getElem?_toArray, List.getElem?_cons_succ, List.getElem?_cons_zero]); rfl) (by kernel_rfl) (by kernel_rfl) (by kernel_rfl) (by exact fun _ _ _ h => h) ⟨Or.inl ⟨by rfl, ?_⟩, fun _ => rfl⟩ (by assumption) ?_); rotate_left; focus (intro wS hSw; (try dsimp only at hSw); go_simp; first | done | with_reducible rfl); try simp only [Act.put, List.setIfInBounds_toArray, List.set_cons_zero, List.set_cons_succ])
    ((refine wpAnyK_take (i := 4) (v := ?_) (by kernel_rfl) (by (simp only [List.getElem?_toArray, List.getElem?_cons_succ, List.getElem?_cons_zero]); rfl) (by kernel_rfl) (by kernel_rfl) (by kernel_rfl) (by exact fun _ _ _ h => h) ⟨Or.inl ⟨by rfl, ?_⟩, fun _ => rfl⟩ (by assumption) ?_); rotate_left; focus (intro wS hSw; (try dsimp only at hSw); go_simp; first | done | with_reducible rfl); try simp only [Act.put, List.setIfInBounds_toArray, List.set_cons_zero, List.set_cons_succ])
    ((refine wpAnyK_take (i := 5) (v := ?_) (by kernel_rfl) (by (simp only [List.getElem?_toArray, List.getElem?_cons_succ, List.getElem?_cons_zero]); rfl) (by kernel_rfl) (by kernel_rfl) (by kernel_rfl) (by exact fun _ _ _ h => h) ⟨Or.inl ⟨by (go_simp; try rfl), ?_⟩, fun _ => rfl⟩ (by assumption) ?_); rotate_left; focus (intro wS hSw; (try dsimp only at hSw); go_simp; first | done | with_reducible rfl); try simp only [Act.put, List.setIfInBounds_toArray, List.set_cons_zero, List.set_cons_succ])
    ((refine wpAnyK_take (i := 6) (v := ?_) (by kernel_rfl) (by (simp only [List.getElem?_toArray, List.getElem?_cons_succ, List.getElem?_cons_zero]); rfl) (by kernel_rfl) (by kernel_rfl) (by kernel_rfl) (by exact fun _ _ _ h => h) ⟨Or.inl ⟨by (go_simp; try rfl), ?_⟩, fun _ => rfl⟩ (by assumption) ?_); rotate_left; focus (intro wS hSw; (try dsimp only at hSw); go_simp; first | done | with_reducible rfl); try simp only [Act.put, List.setIfInBounds_toArray, List.set_cons_zero, List.set_cons_succ])
    ((refine wpAnyK_take (i := 7) (v := ?_) (by kernel_rfl) (by (simp only [List.getElem?_toArray, List.getElem?_cons_succ, List.getElem?_cons_zero]); rfl) (by kernel_rfl) (by kernel_rfl) (by kernel_rfl) (by exact fun _ _ _ h => h) ⟨Or.inl ⟨by (go_simp; try rfl), ?_⟩, fun _ => rfl⟩ (by assumption) ?_); rotate_left; focus (intro wS hSw; (try dsimp only at hSw); go_simp; first | done | with_reducible rfl); try simp only [Act.put, List.setIfInBounds_toArray, List.set_cons_zero, List.set_cons_succ])
    ((refine wpAnyK_take (i := 8) (v := ?_) (by kernel_rfl) (by (simp only [List.getElem?_toArray, List.getElem?_cons_succ, List.getElem?_cons_zero]); rfl) (by kernel_rfl) (by kernel_rfl) (by kernel_rfl) (by exact fun _ _ _ h => h) ⟨Or.inl ⟨by (go_simp; try rfl), ?_⟩, fun _ => rfl⟩ (by assumption) ?_); rotate_left; focus (intro wS hSw; (try dsimp only at hSw); go_simp; first | done | with_reducible rfl); try simp only [Act.put, List.setIfInBounds_toArray, List.set_cons_zero, List.set_cons_succ])
    ((refine wpAnyK_take (i := 9) (v := ?_) (by kernel_rfl) (by (simp only [List.getElem?_toArray, List.getElem?_cons_succ, List.getElem?_cons_zero]); rfl) (by kernel_rfl) (by kernel_rfl) (by kernel_rfl) (by exact fun _ _ _ h => h) ⟨Or.inl ⟨by (go_simp; try rfl), ?_⟩, fun _ => rfl⟩ (by assumption) ?_); rotate_left; focus (intro wS hSw; (try dsimp only at hSw); go_simp; first | done | with_reducible rfl); try simp only [Act.put, List.setIfInBounds_toArray, List.set_cons_zero, List.set_cons_succ])
    ((refine wpAnyK_one (i := 10) (by kernel_rfl) (by (simp only [List.getElem?_toArray, List.getElem?_cons_succ, List.getElem?_cons_zero]); rfl) (by (go_simp; try rfl)) (fun K hK => ?_)); go_simp; skip)
    refine ⟨trivial, ?_⟩
    refine (CallsIn.inRound _ (callsIn_wide.2 HSM.out)).mono ?_
    rintro e W2 ⟨rfl, hB2⟩
    have hBX : Below WX.heap.size WX W2 := below_undrew hB2
    have r0 := HQ0.out.step hBX
    have r1 := HQ1.out.step hBX
    have r2 := HQ2.out.step hBX
    have r3 := HQ3.out.step hBX
    have r4 : Below N w W2 := HQ4.out.trans (hBX.mono (by omega))
    have rx := HXX.out.step hBX
    have d0 : W2.cell? ⟨N, 0, none⟩ = some (.slice (some ⟨g, off, none⟩) n cap) := cell_at r0 0
    have d1 : W2.cell? ⟨N + 1, 0, none⟩ = some (.int .i64 leave) := cell_at r1 0
    have d3 : W2.cell? ⟨N + 1 + 1 + 1, 0, none⟩ = some (.int .i64 (L : Nat)) := cell_at r3 0
    have hcy : ∀ i, i < 4 → W2.cell? ⟨g, off + L * 4 + i, none⟩ = (y.cells)[i]? := fun i hi => (hBX.cell (p := ⟨g, _, none⟩) hglt).trans (HCY.out i hi)
    have hS2 : W2.cell? ⟨N, 0, none⟩ = some (.slice (some ⟨g, off, none⟩) n cap) ∧ W2.cell? ⟨N + 1 + 1 + 1, 0, none⟩ = some (.int .i64 (L : Nat)) ∧ W2.cell? ⟨M, 0, none⟩ = some (.int .i64 x.num) ∧ W2.cell? ⟨M, 1, none⟩ = some (.int .i64 x.t) ∧ W2.cell? ⟨M, 2, none⟩ = some (.int .i64 x.c) ∧ W2.cell? ⟨M, 3, none⟩ = some (.slice x.a x.n x.ca) ∧ W2.cell? ⟨g, off + L * 4, none⟩ = some (.int .i64 y.num) ∧ W2.cell? ⟨g, off + L * 4 + 1, none⟩ = some (.int .i64 y.t) ∧ W2.cell? ⟨g, off + L * 4 + 2, none⟩ = some (.int .i64 y.c) ∧ W2.cell? ⟨g, off + L * 4 + 3, none⟩ = some (.slice y.a y.n y.ca) ∧ N < W2.heap.size ∧ N + 1 + 1 + 1 < W2.heap.size ∧ M < W2.heap.size ∧ g < W2.heap.size :=
      ⟨d0, d3, cell_at rx 0, cell_at rx 1, cell_at rx 2, cell_at rx 3, hcy 0 (by omega), hcy 1 (by omega), hcy 2 (by omega), hcy 3 (by omega), r0.lt, r3.lt, rx.lt, by have := hBX.size; omega⟩
    have z3 := free_at r3 0
    have HS2 := Lib.hid hS2
    have HR0 := Lib.hid r0
    have HR1 := Lib.hid r1
    have HR2 := Lib.hid r2
    have HR3 := Lib.hid r3
    have HR4 := Lib.hid r4
    have HBX := Lib.hid hBX
    have m1 := r1.lt
    have m3 := r3.lt
    have hw1 : IntKind.i64.wrap ((L : Int) + 1) = (L : Int) + 1 := by rw [IntKind.wrap_i64]; omega
    clear hB2 hBX r0 r1 r2 r3 r4 rx hcy hS2 c0 c1 c3 x0 x1 x2 x3 y0 y1 y2 y3 l0 l1 l3 l4 hglt hHeld
    gi_wp2_with fail
    refine hK _ _ HS2.out ?_
    clear hK K
    try simp only [Act.put, List.setIfInBounds_toArray, List.set_cons_zero, List.set_cons_succ]
    have hHeld := HS2.out
    ((refine wpAnyK_take (i := 11) (v := ?_) (by kernel_rfl) (by (simp only [List.getElem?_toArray, List.getElem?_cons_succ, List.getElem?_cons_zero]); rfl) (by kernel_rfl) (by kernel_rfl) (by kernel_rfl) (by exact fun _ _ _ h => h) ⟨Or.inl ⟨by (go_simp; try rfl), ?_⟩, fun _ => rfl⟩ (by assumption) ?_); rotate_left; focus (intro wS hSw; (try dsimp only at hSw); go_simp; first | done | with_reducible rfl); try simp only [Act.put, List.setIfInBounds_toArray, List.set_cons_zero, List.set_cons_succ])
    ((refine wpAnyK_take (i := 12) (v := ?_) (by kernel_rfl) (by (simp only [List.getElem?_toArray, List.getElem?_cons_succ, List.getElem?_cons_zero]); rfl) (by kernel_rfl) (by kernel_rfl) (by kernel_rfl) (by exact fun _ _ _ h => h) ⟨Or.inl ⟨by rfl, ?_⟩, fun _ => rfl⟩ (by assumption) ?_); rotate_left; focus (intro wS hSw; (try dsimp only at hSw); go_simp; first | done | with_reducible rfl); try simp only [Act.put, List.setIfInBounds_toArray, List.set_cons_zero, List.set_cons_succ])
    refine wpAnyK_done (by kernel_rfl) ?_ _
    clear hHeld
    have hfin : ∀ b : Bool, ((L : Int) + 1 == leave) = b → FrB (W0.heap.size + 2) [N + 1 + 1 + 1] WX (W2.setCell ⟨N + 1 + 1 + 1, 0, none⟩ (.int .i64 ((L : Int) + 1))) ∧ ToldI w N (.slice (some ⟨g, off, none⟩) n cap) leave (pre ++ [x]) (W2.setCell ⟨N + 1 + 1 + 1, 0, none⟩ (.int .i64 ((L : Int) + 1))) ∧ (b = true → (((pre ++ [x]).length : Nat) : Int) = leave) := fun b hb => by
      have e1 : (((pre ++ [x]).length : Nat) : Int) = (L : Int) + 1 := by rw [List.length_append, ← HL.out]; rfl
      refine ⟨(FrB.of_below HBX.out (by omega)).trans ⟨rfl, rfl, rfl, by simp, fun k _ hk => heap_setCell_ne _ _ _ _ (by simpa using hk)⟩, ⟨(heap_setCell_ne _ _ _ _ (by simp only; omega)).trans HR0.out, (heap_setCell_ne _ _ _ _ (by simp only; omega)).trans HR1.out, (heap_setCell_ne _ _ _ _ (by simp only; omega)).trans HR2.out, ?_, HR4.out.setCell (p := ⟨N + 1 + 1 + 1, 0, none⟩) (by simp only; omega) _⟩, fun h => ?_⟩
      · rw [e1]
        exact HR3.out.set 0 _
      · rw [e1]
        rw [h] at hb
        exact by simpa using hb
    have HFIN := Lib.hid hfin
    clear hfin
    cases hlv : ((L : Int) + 1 == leave)
    · have HF := Lib.hid (HFIN.out _ hlv)
      gi_wp2_with fail
      exact ⟨HF.out.1, HF.out.2.1⟩
    · have HF := Lib.hid (HFIN.out _ hlv)
      have HF9 := Lib.hid ((HFIN.out _ hlv).2.2 rfl)
      gi_wp2_with fail
      exact ⟨HF.out.1, rfl, HF.out.2.1, HF9.out⟩
  case dn =>
    rintro ys W hys ⟨q0, q1, q2, q3, q4⟩ hK
    rw [hys] at q3
    have c0 : W.cell? ⟨N, 0, none⟩ = some (.slice sa n cap) := cell_at q0 0
    have c1 : W.cell? ⟨N + 1, 0, none⟩ = some (.int .i64 leave) := cell_at q1 0
    have c2 : W.cell? ⟨N + 1 + 1, 0, none⟩ = some (.bool false) := cell_at q2 0
    have c3 : W.cell? ⟨N + 1 + 1 + 1, 0, none⟩ = some (.int .i64 (n : Nat)) := cell_at q3 0
    have z2 := free_at q2 0
    have l2 := q2.lt
    have HK := Lib.hid hK
    have H4 := Lib.hid q4
    have H2 := Lib.hid q2
    clear q0 q1 q2 q3 q4 hK
    gi_wp2_with fail
    obtain ⟨W9, hW9⟩ : ∃ W9, W9 = W.setCell ⟨N + 1 + 1, 0, none⟩ (.bool true) := ⟨_, rfl⟩
    have hK9 : W9.heap[W0.heap.size]? = some (.deferred (some [])) := by rw [hW9]; exact (heap_setCell_ne _ _ _ _ (by simp only; omega)).trans HK.out
    have hB9 : Below N w W9 := by rw [hW9]; exact H4.out.setCell (p := ⟨N + 1 + 1, 0, none⟩) (by simp only; omega) _
    have hb9 : Blk W9 (N + 1 + 1) #[.bool true] 4 := by rw [hW9]; exact H2.out.set 0 _
    rw [← hW9]
    refine ⟨by simp, .inl ⟨_, _, rfl, run_takeDeferred hK9, ?_⟩⟩
    have hbX : Blk (W9.putObj W0.heap.size (.deferred none)) (N + 1 + 1) #[.bool true] 4 := (World.putObj_heap_other (by omega)).trans hb9
    have hcX := cell_at hbX 0
    simp at hcX
    refine ⟨.bool true, (by simp [results, Try.results42, go_sem, hcX]), rfl, ?_⟩
    rw [← HN.out]
    exact hB9.trans ⟨rfl, rfl, rfl, by simp, fun k hk => World.putObj_heap_other (by omega)⟩
  case st =>
    rintro c ys W ⟨rfl, ⟨q0, q1, q2, q3, q4⟩, e⟩ hK
    obtain ⟨L, hL⟩ : ∃ L, L = ys.length := ⟨_, rfl⟩
    rw [← hL] at q3 e
    subst e
    have c0 : W.cell? ⟨N, 0, none⟩ = some (.slice sa n cap) := cell_at q0 0
    have c1 : W.cell? ⟨N + 1, 0, none⟩ = some (.int .i64 (L : Nat)) := cell_at q1 0
    have c2 : W.cell? ⟨N + 1 + 1, 0, none⟩ = some (.bool false) := cell_at q2 0
    have c3 : W.cell? ⟨N + 1 + 1 + 1, 0, none⟩ = some (.int .i64 (L : Nat)) := cell_at q3 0
    have z2 := free_at q2 0
    have l2 := q2.lt
    have HK := Lib.hid hK
    have H4 := Lib.hid q4
    have H2 := Lib.hid q2
    clear q0 q1 q2 q3 q4 hK
    by_cases hLn : L = n
    · have hd : ((L : Int) == (n : Int)) = true := by rw [hLn]; simp
      gi_wp2_with fail
      obtain ⟨W9, hW9⟩ : ∃ W9, W9 = W.setCell ⟨N + 1 + 1, 0, none⟩ (.bool true) := ⟨_, rfl⟩
      have hK9 : W9.heap[W0.heap.size]? = some (.deferred (some [])) := by rw [hW9]; exact (heap_setCell_ne _ _ _ _ (by simp only; omega)).trans HK.out
      have hB9 : Below N w W9 := by rw [hW9]; exact H4.out.setCell (p := ⟨N + 1 + 1, 0, none⟩) (by simp only; omega) _
      have hb9 : Blk W9 (N + 1 + 1) #[.bool true] 4 := by rw [hW9]; exact H2.out.set 0 _
      rw [← hW9]
      refine ⟨by simp, .inl ⟨_, _, rfl, run_takeDeferred hK9, ?_⟩⟩
      have hbX : Blk (W9.putObj W0.heap.size (.deferred none)) (N + 1 + 1) #[.bool true] 4 := (World.putObj_heap_other (by omega)).trans hb9
      have hcX := cell_at hbX 0
      simp at hcX
      refine ⟨.bool true, (by simp [results, Try.results42, go_sem, hcX]), rfl, ?_⟩
      rw [← HN.out]
      exact hB9.trans ⟨rfl, rfl, rfl, by simp, fun k hk => World.putObj_heap_other (by omega)⟩
    · have hd : ((L : Int) == (n : Int)) = false := by rw [beq_eq_false_iff_ne]; omega
      gi_wp2_with fail
      obtain ⟨W9, hW9⟩ : ∃ W9, W9 = W.setCell ⟨N + 1 + 1, 0, none⟩ (.bool true) := ⟨_, rfl⟩
      have hK9 : W9.heap[W0.heap.size]? = some (.deferred (some [])) := by rw [hW9]; exact (heap_setCell_ne _ _ _ _ (by simp only; omega)).trans HK.out
      have hB9 : Below N w W9 := by rw [hW9]; exact H4.out.setCell (p := ⟨N + 1 + 1, 0, none⟩) (by simp only; omega) _
      have hb9 : Blk W9 (N + 1 + 1) #[.bool true] 4 := by rw [hW9]; exact H2.out.set 0 _
      rw [← hW9]
      refine ⟨by simp, .inl ⟨_, _, rfl, run_takeDeferred hK9, ?_⟩⟩
      have hbX : Blk (W9.putObj W0.heap.size (.deferred none)) (N + 1 + 1) #[.bool true] 4 := (World.putObj_heap_other (by omega)).trans hb9
      have hcX := cell_at hbX 0
      simp at hcX
      refine ⟨.bool true, (by simp [results, Try.results42, go_sem, hcX]), rfl, ?_⟩
      rw [← HN.out]
      exact hB9.trans ⟨rfl, rfl, rfl, by simp, fun k hk => World.putObj_heap_other (by omega)⟩
end Go.Proofs.Ytninhjeiialbjaa
