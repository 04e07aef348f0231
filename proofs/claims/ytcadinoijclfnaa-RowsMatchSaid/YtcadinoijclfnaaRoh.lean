/-
  Rows that came in; how long they are; are they the same.
-/
import Derived.Test.YtcadinoijclfnaaRo8
import Derived.Deep.DeepFit
namespace Go.Proofs.Ytcadinoijclfnaa
open Go.RowKit
set_option linter.unusedSimpArgs false
set_option linter.unusedVariables false

set_option maxRecDepth 100000 in
set_option maxHeartbeats 1000000 in
theorem ents_data2 (W : World) {a : Option Addr} {len cap : Nat} {xs : List Dt} (h : SliceFits Try.prog W 47 a len cap xs) : ∃ (b o : Nat) (F : Nat → DE), EntsIn W a len cap b o (fun k => (F k).ent) ∧ DIn W a len cap b o F ∧ ∀ k, k < len → (F k).dl ≤ 140737488351232 := by
  have hc : Try.prog.cellsOf 47 = 5 := by kernel_rfl
  obtain ⟨b, o, h1, h2⟩ := h.spot (by rw [hc]; omega)
  have hex : ∀ k, ∃ q : DE, k < len → ((W.cell? ⟨b, o + k * 5, none⟩ = some (.int .i64 q.t) ∧ W.cell? ⟨b, o + k * 5 + 1, none⟩ = some (.int .i8 q.k) ∧ W.cell? ⟨b, o + k * 5 + 2, none⟩ = some (.int .i64 q.s) ∧ W.cell? ⟨b, o + k * 5 + 3, none⟩ = some (.int .u8 q.st) ∧
      W.cell? ⟨b, o + k * 5 + 4, none⟩ = some (.slice q.da q.dl q.dc)) ∧ -9223372036854775808 ≤ q.t ∧ q.t ≤ 9223372036854775807 ∧ -128 ≤ q.k ∧ q.k ≤ 127 ∧ -9223372036854775808 ≤ q.s ∧ q.s ≤ 9223372036854775807 ∧ 0 ≤ q.st ∧ q.st ≤ 255 ∧ q.dl ≤ q.dc ∧ q.dc ≤ maxLen) ∧ q.by_ W ∧ q.dl ≤ 140737488351232 := fun k => by
    by_cases hk : k < len
    · have hl := h.length
      have hx := List.getElem?_eq_getElem (l := xs) (i := k) (by omega)
      obtain ⟨l, hl1, hl2, hl3⟩ := (h.each k _ hx).1.agg_inv Try.underlying47
      obtain ⟨y0, e0, f0⟩ := hl3 0 _ rfl
      obtain ⟨y1, e1, f1⟩ := hl3 1 _ rfl
      obtain ⟨y2, e2, f2⟩ := hl3 2 _ rfl
      obtain ⟨y3, e3, f3⟩ := hl3 3 _ rfl
      obtain ⟨y4, e4, f4⟩ := hl3 4 _ rfl
      obtain ⟨n0, rfl, g0⟩ := f0.int_inv Try.underlying3
      obtain ⟨n1, rfl, g1⟩ := f1.int_inv Try.underlying44
      obtain ⟨n2, rfl, g2⟩ := f2.int_inv Try.underlying3
      obtain ⟨n3, rfl, g3⟩ := f3.int_inv Try.underlying5
      obtain ⟨da, dl, dc, ys, rfl, g4⟩ := f4.slice_inv Try.underlying45
      obtain ⟨db, od, X, hX⟩ := by_cells W g4
      have hsh : dl ≤ 140737488351232 := by
        have := g4.short
        rw [show Try.prog.bytesOf 5 = 1 by kernel_rfl] at this
        omega
      match l, hl2 with
      | [z0, z1, z2, z3, z4], _ =>
        obtain rfl : z0 = _ := by simpa using e0
        obtain rfl : z1 = _ := by simpa using e1
        obtain rfl : z2 = _ := by simpa using e2
        obtain rfl : z3 = _ := by simpa using e3
        obtain rfl : z4 = _ := by simpa using e4
        have hcell := h2 k _ hx
        rw [hl1, hc] at hcell
        refine ⟨⟨n0, n1, n2, n3, da, dl, dc, db, od, X⟩, fun _ => ⟨⟨⟨hcell 0 _ rfl, by have := hcell 1 _ rfl; rwa [← Nat.add_assoc] at this, by have := hcell 2 _ rfl; rwa [← Nat.add_assoc] at this, by have := hcell 3 _ rfl; rwa [← Nat.add_assoc] at this, by have := hcell 4 _ rfl; rwa [← Nat.add_assoc] at this⟩, g0.1, g0.2, g1.1, g1.2, g2.1, g2.2, g3.1, g3.2, g4.le, g4.max⟩, hX, hsh⟩⟩
    · exact ⟨⟨0, 0, 0, 0, none, 0, 0, 0, 0, fun _ => 0⟩, fun h => absurd h hk⟩
  have hg := fun k => Classical.choose_spec (hex k)
  have hfew : len * 56 ≤ 140737488351232 := by
    have := h.short
    have e : Try.prog.bytesOf 47 = 56 := by kernel_rfl
    rw [e] at this
    omega
  have hle := h.le
  have hmax := h.max
  obtain ⟨F, hF⟩ : ∃ F : Nat → DE, F = fun k => Classical.choose (hex k) := ⟨_, rfl⟩
  have hg2 := hg
  have hq : ∀ k, k < len → ((W.cell? ⟨b, o + k * 5, none⟩ = some (.int .i64 (F k).t) ∧ W.cell? ⟨b, o + k * 5 + 1, none⟩ = some (.int .i8 (F k).k) ∧ W.cell? ⟨b, o + k * 5 + 2, none⟩ = some (.int .i64 (F k).s) ∧ W.cell? ⟨b, o + k * 5 + 3, none⟩ = some (.int .u8 (F k).st) ∧
      W.cell? ⟨b, o + k * 5 + 4, none⟩ = some (.slice (F k).da (F k).dl (F k).dc)) ∧ -9223372036854775808 ≤ (F k).t ∧ (F k).t ≤ 9223372036854775807 ∧ -128 ≤ (F k).k ∧ (F k).k ≤ 127 ∧ -9223372036854775808 ≤ (F k).s ∧ (F k).s ≤ 9223372036854775807 ∧ 0 ≤ (F k).st ∧ (F k).st ≤ 255 ∧ (F k).dl ≤ (F k).dc ∧ (F k).dc ≤ maxLen) ∧ (F k).by_ W ∧ (F k).dl ≤ 140737488351232 := by rw [hF]; exact hg
  clear hg hg2 hF hex h h2
  refine ⟨b, o, F, EntsIn.mk hle hmax hfew h1 (fun k hk => (hq k hk).1.1) (fun k hk => (hq k hk).1.2), DIn.mk hle hmax h1 (fun k hk i hi => ?_) (fun k hk => (hq k hk).2.1), fun k hk => (hq k hk).2.2⟩
  obtain ⟨c0, c1, c2, c3, c4⟩ := (hq k hk).1.1
  match i, hi with
  | 0, _ => exact c0
  | 1, _ => exact c1
  | 2, _ => exact c2
  | 3, _ => exact c3
  | 4, _ => exact c4

theorem rowsD_inv {W : World} {x : Dt} (h : Fits Try.prog W 24 x) : ∃ (v0_0 : Int) (v0_1 : Int) (av0_2 : Option Addr) (nv0_2 : Nat) (cv0_2 : Nat) (xv0_2 : List Dt), x.cells = [.int .i64 v0_0, .int .i64 v0_1, .slice av0_2 nv0_2 cv0_2] ∧ (-9223372036854775808 ≤ v0_0 ∧ v0_0 ≤ 9223372036854775807) ∧ (-9223372036854775808 ≤ v0_1 ∧ v0_1 ≤ 9223372036854775807) ∧ (SliceFits Try.prog W 47 av0_2 nv0_2 cv0_2 xv0_2) := by
  obtain ⟨l0, rfl, hl0, hf0⟩ := h.agg_inv Try.underlying24
  obtain ⟨y0_0, e0_0, f0_0⟩ := hf0 0 _ rfl
  obtain ⟨y0_1, e0_1, f0_1⟩ := hf0 1 _ rfl
  obtain ⟨y0_2, e0_2, f0_2⟩ := hf0 2 _ rfl
  obtain ⟨v0_0, rfl, gv0_0⟩ := f0_0.int_inv Try.underlying3
  obtain ⟨v0_1, rfl, gv0_1⟩ := f0_1.int_inv Try.underlying3
  obtain ⟨av0_2, nv0_2, cv0_2, xv0_2, rfl, gv0_2⟩ := f0_2.slice_inv Try.underlying22
  match l0, hl0 with
  | [z0_0, z0_1, z0_2], _ =>
    obtain rfl : z0_0 = _ := by simpa using e0_0
    obtain rfl : z0_1 = _ := by simpa using e0_1
    obtain rfl : z0_2 = _ := by simpa using e0_2
    exact ⟨v0_0, v0_1, av0_2, nv0_2, cv0_2, xv0_2, rfl, gv0_0, gv0_1, gv0_2⟩

theorem rv_fits (W : World) {a : Option Addr} {len cap : Nat} {xs : List Dt} (h : SliceFits Try.prog W 47 a len cap xs) : ∃ L : List EnD, RV W (.slice a len cap) L ∧ ∀ x ∈ L, x.d.length ≤ 140737488351232 := by
  obtain ⟨b, o, F, hE, hD, hS⟩ := ents_data2 W h
  have hl : ((List.range len).map fun k => (F k).pure).length = len := by simp
  have hp : ∀ k, k < len → ((List.range len).map fun k => (F k).pure)[k]? = some (F k).pure := fun k hk => by simp [hk]
  refine ⟨(List.range len).map fun k => (F k).pure, ⟨a, cap, b, o, F, by rw [hl], by rw [hl]; exact hD, by rw [hl]; exact hp, fun x hx => ?_, by rw [hl]; exact hE.few⟩, fun x hx => ?_⟩
  · obtain ⟨k, hk, rfl⟩ := List.mem_map.1 hx
    have hb := hE.bd k (List.mem_range.1 hk)
    exact ⟨hb.1, hb.2.1, hb.2.2.1, hb.2.2.2.1, hb.2.2.2.2.1, hb.2.2.2.2.2.1, hb.2.2.2.2.2.2.1, hb.2.2.2.2.2.2.2.1⟩
  · obtain ⟨k, hk, rfl⟩ := List.mem_map.1 hx
    have := hS k (List.mem_range.1 hk)
    simpa [DE.pure] using this
def bigB (L : List EnD) : Prop := ∀ x ∈ L, x.d.length ≤ 140737488351232
def smallL (L : List EnD) : Prop := L.length ≤ 150 ∧ dlB L
theorem RV.at5 {W : World} {a : Option Addr} {n c : Nat} {L : List EnD} (h : RV W (.slice a n c) L) (k : Nat) (hk : k < n) : ∃ (g o : Nat) (x : EnD) (da : Option Addr) (dc : Nat), a = some ⟨g, o, none⟩ ∧ g < W.heap.size ∧ L[k]? = some x ∧ W.cell? ⟨g, o + k * 5 + 4, none⟩ = some (.slice da x.d.length dc) := by
  obtain ⟨a', c', g, o, F, e, h1, h2, h3, h4⟩ := h
  injection e with e1 e2 e3
  subst e1 e2 e3
  have := h1.at_ (by omega)
  refine ⟨g, o, (F k).pure, (F k).da, (F k).dc, this.1, this.2, h2 k hk, ?_⟩
  have := h1.cell k hk 4 (by omega)
  rw [show (F k).pure.d.length = (F k).dl by simp [DE.pure]]
  exact this
theorem dl_sum {L : List EnD} (n : Nat) (s : Int) (hn : n = L.length) (h : ∀ (j : Nat) (y : EnD), j < n → L[j]? = some y → (y.d.length : Int) ≤ s) (hs : s ≤ 20000) : dlB L := fun x hx => by
  obtain ⟨j, hj⟩ := List.mem_iff_getElem?.1 hx
  have hjl := (List.getElem?_eq_some_iff.1 hj).1
  have := h j x (by omega) hj
  omega
set_option maxRecDepth 100000 in
set_option maxHeartbeats 8000000 in
theorem long_any (v : Value) (L : List EnD) (w : World) (h : RV w v L) (hb : bigB L) :
    Calls Try.prog 9 #[v] w fun e w' => ∃ q, e = .returned (.bool q) ∧ (q = false → smallL L) ∧ Below w.heap.size w w' := by
  have HR0 := Lib.hid h
  have HBG := Lib.hid hb
  obtain ⟨a, ln, c, rfl, Hln, m1, m2, m3⟩ := h.sh
  clear h hb
  go_enter Try.func9, Try.ntmps9
  go_wp2_with fail
  go_loopw [3, 7] (fun s k wr => ∃ (n : Nat) (t : Int), n ≤ ln ∧ n ≤ 150 ∧ s = .int .i64 t ∧ k = .int .i64 n ∧ 0 ≤ t ∧ t ≤ 20000 ∧ (∀ (j : Nat) (y : EnD), j < n → L[j]? = some y → (y.d.length : Int) ≤ t) ∧ Below w.heap.size w wr) (fun _ k _ => ln - (intOf k).toNat)
  case atStart => exact ⟨0, 0, Nat.zero_le _, Nat.zero_le _, rfl, rfl, by omega, by omega, fun j y hj => absurd hj (Nat.not_lt_zero _), Below.refl _ _⟩
  case round =>
    obtain ⟨n, t, hn, hn2, rfl, rfl, t0, t1, hall, hB⟩ := hrel
    have HALL := Lib.hid hall
    have HB := Lib.hid hB
    clear hall hB
    by_cases hk : n < ln
    · obtain ⟨g, o, x, da, dc, ea, g1, g2, g3⟩ := (HR0.out.below HB.out).at5 n hk
      subst ea
      have hxl := HBG.out x (List.mem_of_getElem? g2)
      have HG2 := Lib.hid g2
      obtain ⟨xl, hxn⟩ : ∃ xl, xl = x.d.length := ⟨_, rfl⟩
      rw [← hxn] at g3 hxl
      obtain ⟨u, hu⟩ : ∃ u, u = t + (xl : Int) := ⟨_, rfl⟩
      have ww1 : IntKind.i64.wrap (t + (xl : Int)) = u := (IntWalk.i64_in _ (by omega)).trans hu.symm
      have HXN := Lib.hid hxn
      have HU := Lib.hid hu
      have b9 : (n < ln) = True := eq_true hk
      clear g2 hxn
      by_cases h1 : 150 ≤ n
      · have d1 : decide ((150 : Int) ≤ (n : Int)) = true := decide_eq_true (by omega)
        have d2 : decide (150 ≤ n) = true := decide_eq_true h1
        clear hu
        go_wp2_with fail
        go_ret
        exact ⟨_, rfl, (fun h => by cases h), HB.out⟩
      · have d1 : decide ((150 : Int) ≤ (n : Int)) = false := decide_eq_false (by omega)
        have d2 : decide (150 ≤ n) = false := decide_eq_false h1
        by_cases h2 : 20000 < u
        · have d3 : decide (20000 < u) = true := decide_eq_true h2
          clear hu
          go_wp2_with fail
          go_ret
          exact ⟨_, rfl, (fun h => by cases h), HB.out⟩
        · have d3 : decide (20000 < u) = false := decide_eq_false h2
          have u0 : 0 ≤ u := by omega
          clear hu
          go_wp2_with fail
          go_roundw
          case rel =>
            refine ⟨n + 1, u, by omega, by omega, rfl, by go_num, u0, by omega, fun j y hj hy => ?_, HB.out⟩
            have hu := HU.out
            rcases Nat.lt_or_ge j n with h | h
            · have := HALL.out j y h hy
              omega
            · obtain rfl : j = n := by omega
              obtain rfl : y = x := Option.some.inj (hy.symm.trans HG2.out)
              have := HXN.out
              omega
          case measure => first | (simp [intOf]; done) | (simp [intOf]; omega)
    · have b9 : (n < ln) = False := eq_false hk
      obtain rfl : n = ln := by omega
      have hfin : smallL L := ⟨by rw [← Hln.out]; exact hn2, dl_sum n t Hln.out HALL.out t1⟩
      have HF := Lib.hid hfin
      clear hfin
      go_wp2_with fail
      go_ret
      exact ⟨_, rfl, fun _ => HF.out, HB.out⟩
set_option maxRecDepth 100000 in
set_option maxHeartbeats 2000000 in
theorem greatR_any (base term : Int) (v : Value) (L : List EnD) (w : World) (h : RV w v L) (hb : bigB L) :
    Calls Try.prog 8 #[.agg #[.int .i64 base, .int .i64 term, v]] w fun e w' => ∃ q, e = .returned (.bool q) ∧ (q = false → smallL L) ∧ Below w.heap.size w w' := by
  obtain ⟨a, ln, c, rfl, Hln, m1, m2, m3⟩ := h.sh
  have HV := Lib.hid h
  have HLG := Lib.hid (fun W (h : RV W (.slice a ln c) L) => long_any _ L W h hb)
  clear h hb
  have HB : Hid (Below w.heap.size w w) := Lib.hid (Below.refl _ _)
  go_enter Try.func8, Try.ntmps8
  go_upto_region 1 with fail
  obtain ⟨N, hN⟩ : ∃ n0, n0 = w.heap.size := ⟨_, rfl⟩
  have HLON : Hid (w.heap.size ≤ N) := Lib.hid (by have := HB.out.size; omega)
  obtain ⟨W1, hA0⟩ : ∃ W0, W0 = w.alloc (.cells #[.int .i64 base, .int .i64 term, .slice a ln c] 24) := ⟨_, rfl⟩
  have hB : Below w.heap.size w W1 := by rw [hA0]; exact (Below.refl _ _).alloc (Nat.le_refl _) _
  have hS0 : W1.heap.size = N + 1 := by rw [hA0]; simp [← hN]
  have HR := Lib.hid (show Blk W1 N #[.int .i64 base, .int .i64 term, .slice a ln c] 24 by rw [hA0, hN]; exact blk_new _ _ _)
  replace HB := Lib.hid (HB.out.trans (hB.mono HB.out.size))
  replace HV := Lib.hid (HV.out.below hB)
  clear hB
  have HSN := Lib.hid hS0
  rw [← hN, ← hA0]
  clear hA0 hN hS0
  have qR0 : W1.cell? ⟨N, 0, none⟩ = some (.int .i64 base) := cell_at HR.out 0
  have qR1 : W1.cell? ⟨N, 1, none⟩ = some (.int .i64 term) := cell_at HR.out 1
  have qR2 : W1.cell? ⟨N, 2, none⟩ = some (.slice a ln c) := cell_at HR.out 2
  have qRz : ∀ j, W1.frozen? ⟨N, j, none⟩ = false := fun j => free_at HR.out j
  have qRl : N < W1.heap.size := HR.out.lt
  go_wp2_with fail
  go_at_call 9
  go_fit (HLG.out _ HV.out)
  rintro e W2 ⟨q, rfl, hq, hB⟩
  clear qR0 qR1 qR2 qRz qRl
  replace HB := Lib.hid (HB.out.trans (hB.mono HB.out.size))
  replace HV := Lib.hid (HV.out.below hB)
  replace HR := Lib.hid (HR.out.step hB)
  clear hB
  have HQ := Lib.hid hq
  clear hq
  go_wp2_with fail
  go_ret
  exact ⟨_, rfl, HQ.out, HB.out⟩
set_option maxRecDepth 100000 in
set_option maxHeartbeats 4000000 in
theorem rsame_any (base term : Int) (v v' : Value) (L : List EnD) (w : World) (h : RV w v L) (h' : RV w v' L) (hn : L.length ≤ 5000) :
    Calls Try.prog 13 #[.agg #[.int .i64 base, .int .i64 term, v], .agg #[.int .i64 base, .int .i64 term, v']] w fun e w' => e = .returned (.bool true) ∧ Below w.heap.size w w' := by
  obtain ⟨a, ln, c, rfl, Hln, m1, m2, m3⟩ := h.sh
  obtain ⟨a2, l2, c2, rfl, Hl2, n1, n2, n3⟩ := h'.sh
  have HV := Lib.hid h
  have HV2 := Lib.hid h'
  have HSM := Lib.hid (fun W (h : RV W (.slice a ln c) L) (h' : RV W (.slice a2 l2 c2) L) => sameR_any _ _ L W h h' hn)
  have d1 : (base == base) = true := beq_self_eq_true _
  have d2 : (term == term) = true := beq_self_eq_true _
  clear h h'
  have HB : Hid (Below w.heap.size w w) := Lib.hid (Below.refl _ _)
  go_enter Try.func13, Try.ntmps13
  go_upto_region 1 with fail
  obtain ⟨N, hN⟩ : ∃ n0, n0 = w.heap.size := ⟨_, rfl⟩
  have HLON : Hid (w.heap.size ≤ N) := Lib.hid (by have := HB.out.size; omega)
  obtain ⟨W1, hA0⟩ : ∃ W0, W0 = w.alloc (.cells #[.int .i64 base, .int .i64 term, .slice a ln c] 24) := ⟨_, rfl⟩
  have hB : Below w.heap.size w W1 := by rw [hA0]; exact (Below.refl _ _).alloc (Nat.le_refl _) _
  have hS0 : W1.heap.size = N + 1 := by rw [hA0]; simp [← hN]
  have HR := Lib.hid (show Blk W1 N #[.int .i64 base, .int .i64 term, .slice a ln c] 24 by rw [hA0, hN]; exact blk_new _ _ _)
  replace HB := Lib.hid (HB.out.trans (hB.mono HB.out.size))
  replace HV := Lib.hid (HV.out.below hB)
  replace HV2 := Lib.hid (HV2.out.below hB)
  clear hB
  obtain ⟨W2, hA1⟩ : ∃ W0, W0 = W1.alloc (.cells #[.int .i64 base, .int .i64 term, .slice a2 l2 c2] 24) := ⟨_, rfl⟩
  have hB : Below W1.heap.size W1 W2 := by rw [hA1]; exact (Below.refl _ _).alloc (Nat.le_refl _) _
  have hS1 : W2.heap.size = N + 2 := by rw [hA1]; simp [hS0]
  have HR2 := Lib.hid (show Blk W2 (N + 1) #[.int .i64 base, .int .i64 term, .slice a2 l2 c2] 24 by rw [hA1, ← hS0]; exact blk_new _ _ _)
  replace HB := Lib.hid (HB.out.trans (hB.mono HB.out.size))
  replace HV := Lib.hid (HV.out.below hB)
  replace HV2 := Lib.hid (HV2.out.below hB)
  replace HR := Lib.hid (HR.out.step hB)
  clear hB
  have HSN := Lib.hid hS1
  rw [← hN, ← hA0, ← hA1]
  clear hA1 hA0 hN hS0 hS1
  have qR0 : W2.cell? ⟨N, 0, none⟩ = some (.int .i64 base) := cell_at HR.out 0
  have qR1 : W2.cell? ⟨N, 1, none⟩ = some (.int .i64 term) := cell_at HR.out 1
  have qR2 : W2.cell? ⟨N, 2, none⟩ = some (.slice a ln c) := cell_at HR.out 2
  have qRz : ∀ j, W2.frozen? ⟨N, j, none⟩ = false := fun j => free_at HR.out j
  have qRl : N < W2.heap.size := HR.out.lt
  have qR20 : W2.cell? ⟨(N + 1), 0, none⟩ = some (.int .i64 base) := cell_at HR2.out 0
  have qR21 : W2.cell? ⟨(N + 1), 1, none⟩ = some (.int .i64 term) := cell_at HR2.out 1
  have qR22 : W2.cell? ⟨(N + 1), 2, none⟩ = some (.slice a2 l2 c2) := cell_at HR2.out 2
  have qR2z : ∀ j, W2.frozen? ⟨(N + 1), j, none⟩ = false := fun j => free_at HR2.out j
  have qR2l : (N + 1) < W2.heap.size := HR2.out.lt
  go_wp2_with fail
  go_at_call 18
  go_fit (HSM.out _ HV.out HV2.out)
  rintro e W3 ⟨rfl, hB⟩
  clear qR0 qR1 qR2 qRz qRl qR20 qR21 qR22 qR2z qR2l
  replace HB := Lib.hid (HB.out.trans (hB.mono HB.out.size))
  replace HV := Lib.hid (HV.out.below hB)
  replace HV2 := Lib.hid (HV2.out.below hB)
  replace HR := Lib.hid (HR.out.step hB)
  replace HR2 := Lib.hid (HR2.out.step hB)
  clear hB
  go_wp2_with fail
  go_ret
  exact ⟨rfl, HB.out⟩
end Go.Proofs.Ytcadinoijclfnaa
