/-
  Entries with their data in memory: copied, and the same or not.
-/
import Derived.Test.YtcadinoijclfnaaBy2
import Derived.Test.YtcadinoijclfnaaRw5
import Derived.Test.YtcadinoijclfnaaFw2
import Derived.Test.YtcadinoijclfnaaRg
namespace Go.Proofs.Ytcadinoijclfnaa
open Go.RowKit
set_option linter.unusedSimpArgs false
set_option linter.unusedVariables false

/-- an entry, and where its data lies -/
structure DE where
  t : Int
  k : Int
  s : Int
  st : Int
  da : Option Addr
  dl : Nat
  dc : Nat
  b : Nat
  o : Nat
  X : Nat → Nat
def DE.cells (e : DE) : List Value := [.int .i64 e.t, .int .i8 e.k, .int .i64 e.s, .int .u8 e.st, .slice e.da e.dl e.dc]
def DE.by_ (W : World) (e : DE) : Prop := ByIn W e.da e.dl e.dc e.b e.o e.X
/-- are two entries the same? -/
def DE.sim (x y : DE) : Prop := x.t = y.t ∧ x.k = y.k ∧ x.s = y.s ∧ x.st = y.st ∧ x.dl = y.dl ∧ ∀ j, j < x.dl → x.X j = y.X j
theorem DE.sim.symm {x y : DE} (h : x.sim y) : y.sim x := ⟨h.1.symm, h.2.1.symm, h.2.2.1.symm, h.2.2.2.1.symm, h.2.2.2.2.1.symm, fun j hj => (h.2.2.2.2.2 j (by have := h.2.2.2.2.1; omega)).symm⟩
theorem DE.sim.trans {x y z : DE} (h : x.sim y) (k : y.sim z) : x.sim z := ⟨h.1.trans k.1, h.2.1.trans k.2.1, h.2.2.1.trans k.2.2.1, h.2.2.2.1.trans k.2.2.2.1, h.2.2.2.2.1.trans k.2.2.2.2.1, fun j hj => (h.2.2.2.2.2 j hj).trans (k.2.2.2.2.2 j (by have := h.2.2.2.2.1; omega))⟩

/-- a slice of entries in a world -/
structure DIn (W : World) (a : Option Addr) (n c g o : Nat) (E : Nat → DE) : Prop where
  le : n ≤ c
  max : c ≤ maxLen
  at_ : 0 < n → a = some ⟨g, o, none⟩ ∧ g < W.heap.size
  cell : ∀ k, k < n → ∀ i, i < 5 → W.cell? ⟨g, o + k * 5 + i, none⟩ = (E k).cells[i]?
  ld : ∀ k, k < n → (E k).by_ W
theorem DIn.below {W W' : World} {a : Option Addr} {n c g o : Nat} {E : Nat → DE} (h : DIn W a n c g o E) (hB : Below W.heap.size W W') : DIn W' a n c g o E :=
  ⟨h.le, h.max, fun hk => ⟨(h.at_ hk).1, by have := (h.at_ hk).2; have := hB.size; omega⟩, fun k hk i hi => (hB.cell (p := ⟨g, _, none⟩) (h.at_ (by omega)).2).trans (h.cell k hk i hi), fun k hk => ByIn.below (h.ld k hk) hB⟩

set_option maxRecDepth 100000 in
set_option maxHeartbeats 4000000 in
theorem sameData_any (x y : DE) (w : World) (hx : x.by_ w) (hy : y.by_ w) (hs : x.sim y) :
    Calls Try.prog 42 #[.slice x.da x.dl x.dc, .slice y.da y.dl y.dc] w fun e w' => e = .returned (.bool true) ∧ w = w' := by
  have s1 := ByIn.string hx
  have s2 := ByIn.string hy
  have hbe := bytesOf_eq x.X y.X hx.bd hy.bd x.dl y.dl
  have ht : (bytesOf x.X x.dl == bytesOf y.X y.dl) = true := by
    rw [hbe, Bool.and_eq_true]
    exact ⟨by simpa using hs.2.2.2.2.1, (eqB_iff _ _ _).2 hs.2.2.2.2.2⟩
  have HT := Lib.hid ht
  have h1 := hx.le
  have h2 := hx.max
  clear hbe ht hx hy hs
  go_enter Try.func42, Try.ntmps42
  go_wp2_with fail
  go_ret
  exact ⟨by first | (rw [HT.out]; done) | rfl | simp [HT.out], rfl⟩

set_option maxRecDepth 100000 in
set_option maxHeartbeats 8000000 in
theorem sameEntry_any (x y : DE) (w : World) (hx : x.by_ w) (hy : y.by_ w) (hs : x.sim y) :
    Calls Try.prog 24 #[.agg #[.int .i64 x.t, .int .i8 x.k, .int .i64 x.s, .int .u8 x.st, .slice x.da x.dl x.dc], .agg #[.int .i64 y.t, .int .i8 y.k, .int .i64 y.s, .int .u8 y.st, .slice y.da y.dl y.dc]] w fun e w' => e = .returned (.bool true) ∧ Below w.heap.size w w' := by
  have hsd := fun W (h : Below w.heap.size w W) => sameData_any x y W (ByIn.below hx h) (ByIn.below hy h) hs
  have HS := Lib.hid hsd
  obtain ⟨e1, e2, e3, e4, e5, e6⟩ := hs
  clear hsd hx hy e5 e6
  obtain ⟨xt, xk, xs, xst, xda, xdl, xdc, xb, xo, xX⟩ := x
  obtain ⟨yt, yk, ys, yst, yda, ydl, ydc, yb, yo, yX⟩ := y
  simp only at e1 e2 e3 e4 HS ⊢
  subst e1 e2 e3 e4
  obtain ⟨N, hN⟩ : ∃ N, N = w.heap.size := ⟨_, rfl⟩
  obtain ⟨W1, hW1⟩ : ∃ W1, W1 = (w.alloc (.cells #[.int .i64 xt, .int .i8 xk, .int .i64 xs, .int .u8 xst, .slice xda xdl xdc] 47)).alloc (.cells #[.int .i64 xt, .int .i8 xk, .int .i64 xs, .int .u8 xst, .slice yda ydl ydc] 47) := ⟨_, rfl⟩
  have hB1 : Below w.heap.size w W1 := by rw [hW1]; exact ((Below.refl _ _).alloc (Nat.le_refl _) _).alloc (by simp) _
  have bx : ∀ (A : World) (k : Nat) (hk : A.heap.size = k) (cs : Array Value) (t : TypeId), Blk (A.alloc (.cells cs t)) k cs t := fun A k hk cs t => by rw [← hk]; exact blk_new _ _ _
  have b0 : Blk W1 N #[.int .i64 xt, .int .i8 xk, .int .i64 xs, .int .u8 xst, .slice xda xdl xdc] 47 := by rw [hW1]; exact (bx _ _ hN.symm _ _).alloc _
  have b1 : Blk W1 (N + 1) #[.int .i64 xt, .int .i8 xk, .int .i64 xs, .int .u8 xst, .slice yda ydl ydc] 47 := by rw [hW1]; exact bx _ _ (by simp [hN]) _ _
  have HB1 := Lib.hid hB1
  have c0 : W1.cell? ⟨N, 0, none⟩ = some (.int .i64 xt) := cell_at b0 0
  have c1 : W1.cell? ⟨N, 1, none⟩ = some (.int .i8 xk) := cell_at b0 1
  have c2 : W1.cell? ⟨N, 2, none⟩ = some (.int .i64 xs) := cell_at b0 2
  have c3 : W1.cell? ⟨N, 3, none⟩ = some (.int .u8 xst) := cell_at b0 3
  have c4 : W1.cell? ⟨N, 4, none⟩ = some (.slice xda xdl xdc) := cell_at b0 4
  have d0 : W1.cell? ⟨N + 1, 0, none⟩ = some (.int .i64 xt) := cell_at b1 0
  have d1 : W1.cell? ⟨N + 1, 1, none⟩ = some (.int .i8 xk) := cell_at b1 1
  have d2 : W1.cell? ⟨N + 1, 2, none⟩ = some (.int .i64 xs) := cell_at b1 2
  have d3 : W1.cell? ⟨N + 1, 3, none⟩ = some (.int .u8 xst) := cell_at b1 3
  have d4 : W1.cell? ⟨N + 1, 4, none⟩ = some (.slice yda ydl ydc) := cell_at b1 4
  have l0 := b0.lt
  have l1 := b1.lt
  clear hB1 bx b0 b1
  go_enter Try.func24, Try.ntmps24
  go_upto_region 1 with fail
  rw [← hN, ← hW1]
  clear hN hW1
  go_wp2_with fail
  go_at_call 42
  refine (HS.out _ HB1.out).mono ?_
  rintro e W ⟨rfl, rfl⟩
  go_wp2_with fail
  go_ret
  exact ⟨rfl, HB1.out⟩

set_option maxRecDepth 100000 in
set_option maxHeartbeats 8000000 in
theorem sameEntries_any (a : Option Addr) (n c g o : Nat) (E : Nat → DE) (a' : Option Addr) (c' g' o' : Nat) (F : Nat → DE) (w : World) (h1 : DIn w a n c g o E) (h2 : DIn w a' n c' g' o' F) (hs : ∀ k, k < n → (E k).sim (F k)) (hn : n ≤ 5000) :
    Calls Try.prog 18 #[.slice a n c, .slice a' n c'] w fun e w' => e = .returned (.bool true) ∧ Below w.heap.size w w' := by
  have hm := h1.max
  have hl := h1.le
  have hm' := h2.max
  have hl' := h2.le
  unfold maxLen at hm hm'
  have H1 := Lib.hid h1
  have H2 := Lib.hid h2
  have HS := Lib.hid hs
  clear h1 h2 hs
  go_enter Try.func18, Try.ntmps18
  go_wp2_with fail
  go_loopw [5] (fun i wr => ∃ k : Nat, k ≤ n ∧ i = .int .i64 k ∧ Below w.heap.size w wr) (fun i _ => n - (intOf i).toNat)
  case atStart => exact ⟨0, Nat.zero_le _, rfl, Below.refl _ _⟩
  case round =>
    obtain ⟨k, hk, rfl, hB⟩ := hrel
    have HB := Lib.hid hB
    clear hB
    by_cases hlt : k < n
    · obtain ⟨e0, e1⟩ := (H1.out.below HB.out).at_ (by omega)
      obtain ⟨e2, e3⟩ := (H2.out.below HB.out).at_ (by omega)
      have hc1 := (H1.out.below HB.out).cell k hlt
      have hc2 := (H2.out.below HB.out).cell k hlt
      subst e0 e2
      have HSE := Lib.hid (fun W (h : Below w.heap.size w W) => sameEntry_any (E k) (F k) W (ByIn.below (H1.out.ld k hlt) h) (ByIn.below (H2.out.ld k hlt) h) (HS.out k hlt))
      obtain ⟨x, hx⟩ : ∃ x, x = E k := ⟨_, rfl⟩
      obtain ⟨y, hy⟩ : ∃ y, y = F k := ⟨_, rfl⟩
      rw [← hx] at hc1 HSE
      rw [← hy] at hc2 HSE
      obtain ⟨xt, xk, xs, xst, xda, xdl, xdc, xb, xo, xX⟩ := x
      obtain ⟨yt, yk, ys, yst, yda, ydl, ydc, yb, yo, yX⟩ := y
      simp only at HSE
      have c0 : wr.drew.cell? ⟨g, o + k * 5, none⟩ = some (.int .i64 xt) := hc1 0 (by omega)
      have c1 : wr.drew.cell? ⟨g, o + k * 5 + 1, none⟩ = some (.int .i8 xk) := hc1 1 (by omega)
      have c2 : wr.drew.cell? ⟨g, o + k * 5 + 2, none⟩ = some (.int .i64 xs) := hc1 2 (by omega)
      have c3 : wr.drew.cell? ⟨g, o + k * 5 + 3, none⟩ = some (.int .u8 xst) := hc1 3 (by omega)
      have c4 : wr.drew.cell? ⟨g, o + k * 5 + 4, none⟩ = some (.slice xda xdl xdc) := hc1 4 (by omega)
      have d0 : wr.drew.cell? ⟨g', o' + k * 5, none⟩ = some (.int .i64 yt) := hc2 0 (by omega)
      have d1 : wr.drew.cell? ⟨g', o' + k * 5 + 1, none⟩ = some (.int .i8 yk) := hc2 1 (by omega)
      have d2 : wr.drew.cell? ⟨g', o' + k * 5 + 2, none⟩ = some (.int .i64 ys) := hc2 2 (by omega)
      have d3 : wr.drew.cell? ⟨g', o' + k * 5 + 3, none⟩ = some (.int .u8 yst) := hc2 3 (by omega)
      have d4 : wr.drew.cell? ⟨g', o' + k * 5 + 4, none⟩ = some (.slice yda ydl ydc) := hc2 4 (by omega)
      have i1 : (0 : Int) ≤ (k : Int) := by omega
      have i2 : (k : Int) < (n : Int) := by omega
      have HBd : Hid (Below w.heap.size w wr.drew) := Lib.hid HB.out.drew
      clear hc1 hc2 hx hy
      go_upto_region 6 with fail
      refine wp_region_held_drew (S := fun X => X.cell? ⟨g, o + k * 5, none⟩ = some (.int .i64 xt) ∧ X.cell? ⟨g, o + k * 5 + 1, none⟩ = some (.int .i8 xk) ∧ X.cell? ⟨g, o + k * 5 + 2, none⟩ = some (.int .i64 xs) ∧ X.cell? ⟨g, o + k * 5 + 3, none⟩ = some (.int .u8 xst) ∧ X.cell? ⟨g, o + k * 5 + 4, none⟩ = some (.slice xda xdl xdc) ∧ X.cell? ⟨g', o' + k * 5, none⟩ = some (.int .i64 yt) ∧ X.cell? ⟨g', o' + k * 5 + 1, none⟩ = some (.int .i8 yk) ∧ X.cell? ⟨g', o' + k * 5 + 2, none⟩ = some (.int .i64 ys) ∧ X.cell? ⟨g', o' + k * 5 + 3, none⟩ = some (.int .u8 yst) ∧ X.cell? ⟨g', o' + k * 5 + 4, none⟩ = some (.slice yda ydl ydc)) (by kernel_rfl) ⟨c0, c1, c2, c3, c4, d0, d1, d2, d3, d4⟩ (fun hHeld => ?_)
      ((refine wpAnyH_take (i := 0) (v := ?_) (by (simp only [List.getElem?_toArray, List.getElem?_cons_succ, List.getElem?_cons_zero]); rfl) (by kernel_rfl) (by kernel_rfl) (by kernel_rfl) (by exact fun _ _ _ h => h) (Or.inl ⟨by rfl, ?_⟩) (by assumption) ?_); rotate_left; focus (intro wS hSw; (try dsimp only at hSw); go_simp; first | done | with_reducible rfl); try simp only [Act.put, List.setIfInBounds_toArray, List.set_cons_zero, List.set_cons_succ])
      ((refine wpAnyH_take (i := 1) (v := ?_) (by (simp only [List.getElem?_toArray, List.getElem?_cons_succ, List.getElem?_cons_zero]); rfl) (by kernel_rfl) (by kernel_rfl) (by kernel_rfl) (by exact fun _ _ _ h => h) (Or.inl ⟨by rfl, ?_⟩) (by assumption) ?_); rotate_left; focus (intro wS hSw; (try dsimp only at hSw); go_simp; first | done | with_reducible rfl); try simp only [Act.put, List.setIfInBounds_toArray, List.set_cons_zero, List.set_cons_succ])
      ((refine wpAnyH_take (i := 2) (v := ?_) (by (simp only [List.getElem?_toArray, List.getElem?_cons_succ, List.getElem?_cons_zero]); rfl) (by kernel_rfl) (by kernel_rfl) (by kernel_rfl) (by exact fun _ _ _ h => h) (Or.inl ⟨by rfl, ?_⟩) (by assumption) ?_); rotate_left; focus (intro wS hSw; (try dsimp only at hSw); go_simp; first | done | with_reducible rfl); try simp only [Act.put, List.setIfInBounds_toArray, List.set_cons_zero, List.set_cons_succ])
      ((refine wpAnyH_take (i := 3) (v := ?_) (by (simp only [List.getElem?_toArray, List.getElem?_cons_succ, List.getElem?_cons_zero]); rfl) (by kernel_rfl) (by kernel_rfl) (by kernel_rfl) (by exact fun _ _ _ h => h) (Or.inl ⟨by rfl, ?_⟩) (by assumption) ?_); rotate_left; focus (intro wS hSw; (try dsimp only at hSw); go_simp; first | done | with_reducible rfl); try simp only [Act.put, List.setIfInBounds_toArray, List.set_cons_zero, List.set_cons_succ])
      ((refine wpAnyH_take (i := 4) (v := ?_) (by (simp only [List.getElem?_toArray, List.getElem?_cons_succ, List.getElem?_cons_zero]); rfl) (by kernel_rfl) (by kernel_rfl) (by kernel_rfl) (by exact fun _ _ _ h => h) (Or.inl ⟨by rfl, ?_⟩) (by assumption) ?_); rotate_left; focus (intro wS hSw; (try dsimp only at hSw); go_simp; first | done | with_reducible rfl); try simp only [Act.put, List.setIfInBounds_toArray, List.set_cons_zero, List.set_cons_succ])
      ((refine wpAnyH_take (i := 5) (v := ?_) (by (simp only [List.getElem?_toArray, List.getElem?_cons_succ, List.getElem?_cons_zero]); rfl) (by kernel_rfl) (by kernel_rfl) (by kernel_rfl) (by exact fun _ _ _ h => h) (Or.inl ⟨by rfl, ?_⟩) (by assumption) ?_); rotate_left; focus (intro wS hSw; (try dsimp only at hSw); go_simp; first | done | with_reducible rfl); try simp only [Act.put, List.setIfInBounds_toArray, List.set_cons_zero, List.set_cons_succ])
      ((refine wpAnyH_take (i := 6) (v := ?_) (by (simp only [List.getElem?_toArray, List.getElem?_cons_succ, List.getElem?_cons_zero]); rfl) (by kernel_rfl) (by kernel_rfl) (by kernel_rfl) (by exact fun _ _ _ h => h) (Or.inl ⟨by rfl, ?_⟩) (by assumption) ?_); rotate_left; focus (intro wS hSw; (try dsimp only at hSw); go_simp; first | done | with_reducible rfl); try simp only [Act.put, List.setIfInBounds_toArray, List.set_cons_zero, List.set_cons_succ])
      ((refine wpAnyH_take (i := 7) (v := ?_) (by (simp only [List.getElem?_toArray, List.getElem?_cons_succ, List.getElem?_cons_zero]); rfl) (by kernel_rfl) (by kernel_rfl) (by kernel_rfl) (by exact fun _ _ _ h => h) (Or.inl ⟨by rfl, ?_⟩) (by assumption) ?_); rotate_left; focus (intro wS hSw; (try dsimp only at hSw); go_simp; first | done | with_reducible rfl); try simp only [Act.put, List.setIfInBounds_toArray, List.set_cons_zero, List.set_cons_succ])
      ((refine wpAnyH_ready (rs := [8]) (by kernel_rfl) (by simp) ?_); (refine AllReadyH.cons (by (simp only [List.getElem?_toArray, List.getElem?_cons_succ, List.getElem?_cons_zero]); rfl) (fun K hK => ?_) AllReadyH.nil); go_simp; refine Calls.mono (HSE.out _ HBd.out) ?_)
      rintro e W2 ⟨rfl, hB2⟩
      have HB2 := Lib.hid (HBd.out.trans (hB2.mono HBd.out.size))
      have hS2 : W2.cell? ⟨g, o + k * 5, none⟩ = some (.int .i64 xt) ∧ W2.cell? ⟨g, o + k * 5 + 1, none⟩ = some (.int .i8 xk) ∧ W2.cell? ⟨g, o + k * 5 + 2, none⟩ = some (.int .i64 xs) ∧ W2.cell? ⟨g, o + k * 5 + 3, none⟩ = some (.int .u8 xst) ∧ W2.cell? ⟨g, o + k * 5 + 4, none⟩ = some (.slice xda xdl xdc) ∧ W2.cell? ⟨g', o' + k * 5, none⟩ = some (.int .i64 yt) ∧ W2.cell? ⟨g', o' + k * 5 + 1, none⟩ = some (.int .i8 yk) ∧ W2.cell? ⟨g', o' + k * 5 + 2, none⟩ = some (.int .i64 ys) ∧ W2.cell? ⟨g', o' + k * 5 + 3, none⟩ = some (.int .u8 yst) ∧ W2.cell? ⟨g', o' + k * 5 + 4, none⟩ = some (.slice yda ydl ydc) := by
        have q := fun i => hB2.cell (p := ⟨g, i, none⟩) e1
        have q' := fun i => hB2.cell (p := ⟨g', i, none⟩) e3
        exact ⟨(q _).trans c0, (q _).trans c1, (q _).trans c2, (q _).trans c3, (q _).trans c4, (q' _).trans d0, (q' _).trans d1, (q' _).trans d2, (q' _).trans d3, (q' _).trans d4⟩
      clear hB2 c0 c1 c2 c3 c4 d0 d1 d2 d3 d4
      go_wp2_with fail
      refine hK.out _ _ hS2 (fun hHeld => ?_)
      clear hK K hS2
      try simp only [Act.put, List.setIfInBounds_toArray, List.set_cons_zero, List.set_cons_succ]
      ((refine wpAnyH_take (i := 9) (v := ?_) (by (simp only [List.getElem?_toArray, List.getElem?_cons_succ, List.getElem?_cons_zero]); rfl) (by kernel_rfl) (by kernel_rfl) (by kernel_rfl) (by exact fun _ _ _ h => h) (Or.inl ⟨by rfl, ?_⟩) (by assumption) ?_); rotate_left; focus (intro wS hSw; (try dsimp only at hSw); go_simp; first | done | with_reducible rfl); try simp only [Act.put, List.setIfInBounds_toArray, List.set_cons_zero, List.set_cons_succ])
      refine wpAnyH_done (by kernel_rfl) ?_ _
      clear hHeld
      go_wp2_with fail
      go_roundw
      case rel => exact ⟨k + 1, by omega, by go_num, HB2.out⟩
      case measure => first | (simp [intOf]; done) | (simp [intOf]; omega)
    · obtain rfl : k = n := by omega
      go_wp2_with fail
      go_ret
      exact ⟨rfl, HB.out⟩
end Go.Proofs.Ytcadinoijclfnaa
