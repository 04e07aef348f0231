/-
  Texts of this claim, put together: LgT2, LgC1, LgY2, Por, LgX2, Bk4, LgC2, LgL2.
-/
import Derived.Test.YtfgnjpdlchimpaaLc1
import Derived.Test.YtfgnjpdlchimpaaLc2
import Derived.Test.YtfgnjpdlchimpaaLc3
import Derived.Test.YtfgnjpdlchimpaaLc4
import Derived.Test.YtfgnjpdlchimpaaLc5
import Derived.Test.YtfgnjpdlchimpaaLd1
import Derived.Deep.DeepFit
import Derived.Lib.AppendZeros
import Derived.Defers
import Derived.Deep.RegionLaw
namespace Go.Proofs.Ytfgnjpdlchimpaa
open Go.RowKit
set_option linter.unusedSimpArgs false
set_option linter.unusedVariables false

theorem FrB.blk {W W' : World} {ot : Option Nat} (hf : FrB W.heap.size ot.toList W W') (k : Nat) (hk : k < W.heap.size) (hne : ∀ g2, ot = some g2 → k ≠ g2) : W'.heap[k]? = W.heap[k]? := hf.block k hk (by cases ot with | none => simp | some g => simpa using hne g rfl)
theorem LeO.frBT {W W' : World} {M M2 : Nat} {v v2 : Value} {ob ot : Option Nat} {L : List LeE} {L2 : List TnE} (h : LeO M W v ob L) (hr : TnO M2 W v2 ot L2) (hf : FrB W.heap.size ot.toList W W') : LeO M W' v ob L := ⟨row_keep h.1 hr.1 (by decide) hf.blk, h.2.1, h.2.2⟩
theorem SeO.frBT {W W' : World} {M M2 : Nat} {v v2 : Value} {ob ot : Option Nat} {L : List SeE} {L2 : List TnE} (h : SeO M W v ob L) (hr : TnO M2 W v2 ot L2) (hf : FrB W.heap.size ot.toList W W') : SeO M W' v ob L := ⟨row_keep h.1 hr.1 (by decide) hf.blk, h.2.1, h.2.2⟩
theorem DkO.frBT {W W' : World} {M M2 : Nat} {v v2 : Value} {ob ot : Option Nat} {L : List DkE} {L2 : List TnE} (h : DkO M W v ob L) (hr : TnO M2 W v2 ot L2) (hf : FrB W.heap.size ot.toList W W') : DkO M W' v ob L := ⟨row_keep h.1 hr.1 (by decide) hf.blk, h.2.1, h.2.2⟩
theorem Blk.frBT {W W' : World} {M2 n0 : Nat} {v2 : Value} {ot : Option Nat} {cs : Array Value} {t : TypeId} {L2 : List TnE} (h : Blk W n0 cs t) (hr : TnO M2 W v2 ot L2) (hf : FrB W.heap.size ot.toList W W') (ht : t ≠ 54) : Blk W' n0 cs t := (hf.blk n0 h.lt (fun g e => by subst e; exact row_blk_ne hr.1 h ht)).trans h
theorem TnO.blkMap {W : World} {M2 b g : Nat} {v2 : Value} {L2 : List TnE} {κ : Type} [DecidableEq κ] {enc : κ → Value} {F : κ → Int} (hr : TnO M2 W v2 (some g) L2) (h : MapT W b enc F) : b ≠ g := by
  intro e
  subst e
  obtain ⟨L, c, h1, _⟩ := h
  rcases hr.1.cases with ⟨he, _⟩ | ⟨g1, cap, cur, he, _, h3, _⟩
  · cases he
  · obtain rfl := Option.some.inj he
    exact absurd (h3.symm.trans h1) (by simp)
theorem MapT.frBT {W W' : World} {M2 b : Nat} {v2 : Value} {ot : Option Nat} {L2 : List TnE} {κ : Type} [DecidableEq κ] {enc : κ → Value} {F : κ → Int} (h : MapT W b enc F) (hr : TnO M2 W v2 ot L2) (hf : FrB W.heap.size ot.toList W W') : MapT W' b enc F := h.congr (hf.blk b h.lt (fun g e => by subst e; exact hr.blkMap h))
/-- the first k of a list, mapped -/
def mapK {α : Type} (f : α → α) (L : List α) (k : Nat) : List α := (L.take k).map f ++ L.drop k
theorem mapK_zero {α : Type} (f : α → α) (L : List α) : mapK f L 0 = L := by simp [mapK]
theorem mapK_len {α : Type} (f : α → α) (L : List α) (k : Nat) (hk : k ≤ L.length) : (mapK f L k).length = L.length := by simp [mapK]; omega
theorem mapK_end {α : Type} (f : α → α) (L : List α) : mapK f L L.length = L.map f := by simp [mapK]
theorem mapK_at {α : Type} (f : α → α) (L : List α) (k : Nat) (x : α) (h : L[k]? = some x) : (mapK f L k)[k]? = some x := by
  have hk := (List.getElem?_eq_some_iff.1 h).1
  unfold mapK
  rw [List.getElem?_append_right (by simp; omega)]
  simp only [List.length_map, List.length_take]
  rw [show k - min k L.length = 0 by omega, List.getElem?_drop, Nat.add_zero, h]
theorem mapK_succ {α : Type} (f : α → α) (L : List α) (k : Nat) (x : α) (h : L[k]? = some x) : mapK f L (k + 1) = (mapK f L k).set k (f x) := by
  have hk := (List.getElem?_eq_some_iff.1 h).1
  have hx : L[k] = x := by have := List.getElem?_eq_getElem hk; rw [this] at h; exact Option.some.inj h
  unfold mapK
  rw [List.take_add_one, h, List.map_append, List.drop_eq_getElem_cons hk, hx]
  rw [List.set_append_right _ _ (by simp; omega)]
  simp only [List.length_map, List.length_take]
  rw [show k - min k L.length = 0 by omega]
  simp
theorem set_id {α : Type} : ∀ (L : List α) (k : Nat) (x : α), L[k]? = some x → L.set k x = L
  | [], _, _, h => by simp at h
  | y :: r, 0, x, h => by simp at h; subst h; rfl
  | y :: r, k + 1, x, h => by simp at h; simp [set_id r k x h]
theorem creditS_bd (b rate burst out ticks : Int) : 0 ≤ creditS b rate burst out ticks ∧ creditS b rate burst out ticks ≤ 1000000000 := by
  have h := (within_bd rate 1000000 (by omega))
  have h2 := (within_bd ticks 1099511627776 (by omega))
  have h3 := prod_bd rate ticks
  have hfin : creditS b rate burst out ticks = cut (moreS b (within rate 1000000 * within ticks 1099511627776)) burst out := (cut_more _ _ _ _ h3.1).symm
  rw [hfin]
  unfold cut
  have := room_bd burst out
  unfold within
  omega
theorem FrB.mono0 {n n' : Nat} {l : List Nat} {a b : World} (h : FrB n' l a b) (hn : n ≤ n') : FrB n l a b := ⟨h.os, h.tape, h.output, h.size, fun i hi hm => h.block i (by omega) hm⟩
end Go.Proofs.Ytfgnjpdlchimpaa
namespace Go.Proofs.Ytfgnjpdlchimpaa
open Go.RowKit
set_option linter.unusedSimpArgs false
set_option linter.unusedVariables false

set_option maxRecDepth 100000 in
set_option maxHeartbeats 16000000 in
theorem credit_led (v : Value) (s : StE) (ticks : Int) (w : World) (h : SV w v s) (hf : fewS s) :
    Calls Try.prog 18 #[v, .int .i64 ticks] w fun e w' => ∃ v', e = .returned v' ∧ SV w' v' (credS s ticks) ∧ Below w.heap.size w w' := by
  have zl : ∀ u, (zeroValue 3).run Try.prog u = .ok (.int .i64 0) u := fun u => by kernel_rfl
  have HKW := Lib.hid (fun (X : World) (b : Nat) (G : Int → Int) (x : Int) (h : MapT X b (fun c : Int => Value.agg #[.int .i64 c]) G) => h.look key_whose Try.underlying63 (zl X) x)
  clear zl
  have HFEW := Lib.hid hf
  obtain ⟨f1, f2, f3, f4⟩ := hf
  obtain ⟨vt, vl, vs, vd, rfl, ht, hl, hs, hd⟩ := h
  obtain ⟨ta, tn, tc, rfl, Htn, tn1, tn2⟩ := ht.sh
  obtain ⟨la, ln, lc, rfl, Hln, ln1, ln2⟩ := hl.sh
  obtain ⟨sa, sn, sc, rfl, Hsn, sn1, sn2⟩ := hs.sh
  obtain ⟨da, dn, dc, rfl, Hdn, dn1, dn2⟩ := hd.sh
  have HT0 := Lib.hid ht
  have HL0 := Lib.hid hl
  have HS0 := Lib.hid hs
  have HD0 := Lib.hid hd
  have HT := Lib.hid ht
  have HL := Lib.hid hl
  have HS := Lib.hid hs
  have HD := Lib.hid hd
  clear ht hl hs hd
  rw [← Hln.out] at f2
  rw [← Htn.out] at f1
  have HSV : Hid (∀ W, TV W (.slice ta tn tc) s.ts → LeV W (.slice la ln lc) s.ls → SeV W (.slice sa sn sc) s.ss → DkV W (.slice da dn dc) s.ds → SV W (.agg #[.int .i64 s.term, .int .i64 s.stamp, .int .i64 s.next, .slice ta tn tc, .slice la ln lc, .slice sa sn sc, .slice da dn dc]) s) := Lib.hid (fun W h1 h2 h3 h4 => ⟨_, _, _, _, rfl, h1, h2, h3, h4⟩)
  have HCK := Lib.hid (fun W v (h : SV W v s) => checkS_any v s W h HFEW.out)
  have HTW := Lib.hid (fun W v (h : SV W v s) => twinO_any v s W h HFEW.out)
  obtain ⟨C, hC⟩ : ∃ C, C = chkS s := ⟨_, rfl⟩
  have HSZ := Lib.hid (fun h : C = true => lesB_size (s := s) (by rw [hC] at h; unfold chkS at h; simp only [Bool.and_eq_true] at h; exact h.1.2))
  rw [← hC] at HCK
  have HCE := Lib.hid hC
  clear hC
  obtain ⟨R, hR⟩ : ∃ R, R = credS s ticks := ⟨_, rfl⟩
  rw [← hR]
  unfold credS at hR
  rw [← HCE.out] at hR
  have HR9 := Lib.hid hR
  clear hR
  obtain ⟨F, hF⟩ : ∃ F : Nat → List TnE, F = mapK (credT s.ls ticks) s.ts := ⟨_, rfl⟩
  have HF0 : Hid (F 0 = s.ts) := Lib.hid (by rw [hF]; exact mapK_zero _ _)
  have HFL : Hid (∀ k, k ≤ tn → (F k).length = tn) := Lib.hid (fun k hk => by rw [hF, mapK_len _ _ _ (by rw [← Htn.out]; exact hk), ← Htn.out])
  have HFE : Hid (F tn = s.ts.map (credT s.ls ticks)) := Lib.hid (by rw [hF, Htn.out]; exact mapK_end _ _)
  have HFA : Hid (∀ k x, s.ts[k]? = some x → (F k)[k]? = some x) := Lib.hid (fun k x h => by rw [hF]; exact mapK_at _ _ _ _ h)
  have HFS : Hid (∀ k x, s.ts[k]? = some x → F (k + 1) = (F k).set k (credT s.ls ticks x)) := Lib.hid (fun k x h => by rw [hF]; exact mapK_succ _ _ _ _ h)
  clear hF
  have HB : Hid (Below w.heap.size w w) := Lib.hid (Below.refl _ _)
  have hmf : ∀ (fn : Fn) (first cap : Array Value) (w : World), (Instr.makeFunc fn first cap).run Try.prog w = .ok (.func fn first cap) w := fun _ _ _ _ => rfl
  go_enter_defers Try.func18, Try.ntmps18
  go_upto_region 1 with fail
  obtain ⟨N, hN⟩ : ∃ n0, n0 = w.heap.size := ⟨_, rfl⟩
  have HLON : Hid (w.heap.size ≤ N) := Lib.hid (by have := HB.out.size; omega)
  obtain ⟨W1, hA0⟩ : ∃ W0, W0 = w.alloc (.cells #[.int .i64 s.term, .int .i64 s.stamp, .int .i64 s.next, .slice ta tn tc, .slice la ln lc, .slice sa sn sc, .slice da dn dc] 27) := ⟨_, rfl⟩
  have hB : Below w.heap.size w W1 := by rw [hA0]; exact (Below.refl _ _).alloc (Nat.le_refl _) _
  have hS0 : W1.heap.size = N + 1 := by rw [hA0]; simp [← hN]
  have HR := Lib.hid (show Blk W1 N #[.int .i64 s.term, .int .i64 s.stamp, .int .i64 s.next, .slice ta tn tc, .slice la ln lc, .slice sa sn sc, .slice da dn dc] 27 by rw [hA0, hN]; exact blk_new _ _ _)
  replace HB := Lib.hid (HB.out.trans (hB.mono HB.out.size))
  replace HT := Lib.hid (HT0.out.below HB.out)
  replace HL := Lib.hid (HL0.out.below HB.out)
  replace HS := Lib.hid (HS0.out.below HB.out)
  replace HD := Lib.hid (HD0.out.below HB.out)
  clear hB
  obtain ⟨W2, hA1⟩ : ∃ W0, W0 = W1.alloc (.cells #[.int .i64 0, .int .i64 0, .int .i64 0, .slice none 0 0, .slice none 0 0, .slice none 0 0, .slice none 0 0] 27) := ⟨_, rfl⟩
  have hB : Below W1.heap.size W1 W2 := by rw [hA1]; exact (Below.refl _ _).alloc (Nat.le_refl _) _
  have hS1 : W2.heap.size = N + 2 := by rw [hA1]; simp [hS0]
  have HO := Lib.hid (show Blk W2 (N + 1) #[.int .i64 0, .int .i64 0, .int .i64 0, .slice none 0 0, .slice none 0 0, .slice none 0 0, .slice none 0 0] 27 by rw [hA1, ← hS0]; exact blk_new _ _ _)
  replace HB := Lib.hid (HB.out.trans (hB.mono HB.out.size))
  replace HT := Lib.hid (HT0.out.below HB.out)
  replace HL := Lib.hid (HL0.out.below HB.out)
  replace HS := Lib.hid (HS0.out.below HB.out)
  replace HD := Lib.hid (HD0.out.below HB.out)
  replace HR := Lib.hid (HR.out.step hB)
  clear hB
  have HSN := Lib.hid hS1
  rw [← hN, ← hA0, ← hA1]
  clear hA1 hA0 hN hS0 hS1
  have qR0 : W2.cell? ⟨N, 0, none⟩ = some (.int .i64 s.term) := cell_at HR.out 0
  have qR1 : W2.cell? ⟨N, 1, none⟩ = some (.int .i64 s.stamp) := cell_at HR.out 1
  have qR2 : W2.cell? ⟨N, 2, none⟩ = some (.int .i64 s.next) := cell_at HR.out 2
  have qR3 : W2.cell? ⟨N, 3, none⟩ = some (.slice ta tn tc) := cell_at HR.out 3
  have qR4 : W2.cell? ⟨N, 4, none⟩ = some (.slice la ln lc) := cell_at HR.out 4
  have qR5 : W2.cell? ⟨N, 5, none⟩ = some (.slice sa sn sc) := cell_at HR.out 5
  have qR6 : W2.cell? ⟨N, 6, none⟩ = some (.slice da dn dc) := cell_at HR.out 6
  have qRz : ∀ j, W2.frozen? ⟨N, j, none⟩ = false := fun j => free_at HR.out j
  have qRl : N < W2.heap.size := HR.out.lt
  have FOO := Lib.hid HO.out.lt
  have HB0L : Hid (w.heap.size ≤ W2.heap.size) := Lib.hid HB.out.size
  go_wp2_with fail
  go_at_call 36
  go_fit (HTW.out _ _ (HSV.out _ HT.out HL.out HS.out HD.out))
  rintro e W3 ⟨v2, rfl, hso, hB⟩
  clear qR0 qR1 qR2 qR3 qR4 qR5 qR6 qRz qRl
  replace HB := Lib.hid (HB.out.trans (hB.mono HB.out.size))
  replace HT := Lib.hid (HT0.out.below HB.out)
  replace HL := Lib.hid (HL0.out.below HB.out)
  replace HS := Lib.hid (HS0.out.below HB.out)
  replace HD := Lib.hid (HD0.out.below HB.out)
  replace HR := Lib.hid (HR.out.step hB)
  replace HO := Lib.hid (HO.out.step hB)
  clear hB
  obtain ⟨vt2, vl2, vs2, vd2, ot, ol, os, od, rfl, o1, o2, o3, o4⟩ := hso
  obtain ⟨b1, m1, k1, rfl, Hb1, x1, y1⟩ := o1.v.sh
  obtain ⟨b2, m2, k2, rfl, Hb2, x2, y2⟩ := o2.v.sh
  obtain ⟨b3, m3, k3, rfl, Hb3, x3, y3⟩ := o3.v.sh
  obtain ⟨b4, m4, k4, rfl, Hb4, x4, y4⟩ := o4.v.sh
  have O1 := Lib.hid o1
  have FO1 := Lib.hid (show (N + 1) < W2.heap.size from FOO.out)
  have O2 := Lib.hid o2
  have FO2 := Lib.hid (show (N + 1) < W2.heap.size from FOO.out)
  have O3 := Lib.hid o3
  have FO3 := Lib.hid (show (N + 1) < W2.heap.size from FOO.out)
  have O4 := Lib.hid o4
  have FO4 := Lib.hid (show (N + 1) < W2.heap.size from FOO.out)
  clear o1 o2 o3 o4
  have qO0 : W3.cell? ⟨(N + 1), 0, none⟩ = some (.int .i64 0) := cell_at HO.out 0
  have qO1 : W3.cell? ⟨(N + 1), 1, none⟩ = some (.int .i64 0) := cell_at HO.out 1
  have qO2 : W3.cell? ⟨(N + 1), 2, none⟩ = some (.int .i64 0) := cell_at HO.out 2
  have qO3 : W3.cell? ⟨(N + 1), 3, none⟩ = some (.slice none 0 0) := cell_at HO.out 3
  have qO4 : W3.cell? ⟨(N + 1), 4, none⟩ = some (.slice none 0 0) := cell_at HO.out 4
  have qO5 : W3.cell? ⟨(N + 1), 5, none⟩ = some (.slice none 0 0) := cell_at HO.out 5
  have qO6 : W3.cell? ⟨(N + 1), 6, none⟩ = some (.slice none 0 0) := cell_at HO.out 6
  have qOz : ∀ j, W3.frozen? ⟨(N + 1), j, none⟩ = false := fun j => free_at HO.out j
  have qOl : (N + 1) < W3.heap.size := HO.out.lt
  go_upto_region 2 with fail
  clear qO0 qO1 qO2 qO3 qO4 qO5 qO6 qOz qOl
  obtain ⟨LS, hLS⟩ : ∃ L : List Value, L = [.int .i64 s.term, .int .i64 s.stamp, .int .i64 s.next, .slice b1 m1 k1, .slice b2 m2 k2, .slice b3 m3 k3, .slice b4 m4 k4] := ⟨_, rfl⟩
  obtain ⟨W4, hWS⟩ : ∃ WS, WS = W3.setCells (N + 1) 0 LS := ⟨_, rfl⟩
  have hch := hWS
  rw [hLS] at hch
  simp only [World.setCells, Nat.zero_add, Nat.reduceAdd] at hch
  rw [← hch]
  clear hch
  have hkS := stC_blk HO.out LS (by rw [hLS]; rfl)
  have hfS := stC_fr (N + 1) LS 0 W3
  rw [← hWS] at hkS hfS
  rw [hLS] at hkS
  replace HB := Lib.hid (HB.out.trans (hfS.below HB.out.size (by have := HLON.out; simp; try omega)))
  replace HT := Lib.hid (HT0.out.below HB.out)
  replace HL := Lib.hid (HL0.out.below HB.out)
  replace HS := Lib.hid (HS0.out.below HB.out)
  replace HD := Lib.hid (HD0.out.below HB.out)
  replace HR := Lib.hid (show Blk W4 N #[.int .i64 s.term, .int .i64 s.stamp, .int .i64 s.next, .slice ta tn tc, .slice la ln lc, .slice sa sn sc, .slice da dn dc] 27 from (hfS.block _ HR.out.lt (by simp; try omega)).trans HR.out)
  replace O1 := Lib.hid (O1.out.fr hfS (by have := FO1.out; omega))
  replace O2 := Lib.hid (O2.out.fr hfS (by have := FO2.out; omega))
  replace O3 := Lib.hid (O3.out.fr hfS (by have := FO3.out; omega))
  replace O4 := Lib.hid (O4.out.fr hfS (by have := FO4.out; omega))
  replace HO := Lib.hid (show Blk W4 (N + 1) #[.int .i64 s.term, .int .i64 s.stamp, .int .i64 s.next, .slice b1 m1 k1, .slice b2 m2 k2, .slice b3 m3 k3, .slice b4 m4 k4] 27 from hkS)
  clear hWS hLS hkS hfS
  have qR0 : W4.cell? ⟨N, 0, none⟩ = some (.int .i64 s.term) := cell_at HR.out 0
  have qR1 : W4.cell? ⟨N, 1, none⟩ = some (.int .i64 s.stamp) := cell_at HR.out 1
  have qR2 : W4.cell? ⟨N, 2, none⟩ = some (.int .i64 s.next) := cell_at HR.out 2
  have qR3 : W4.cell? ⟨N, 3, none⟩ = some (.slice ta tn tc) := cell_at HR.out 3
  have qR4 : W4.cell? ⟨N, 4, none⟩ = some (.slice la ln lc) := cell_at HR.out 4
  have qR5 : W4.cell? ⟨N, 5, none⟩ = some (.slice sa sn sc) := cell_at HR.out 5
  have qR6 : W4.cell? ⟨N, 6, none⟩ = some (.slice da dn dc) := cell_at HR.out 6
  have qRz : ∀ j, W4.frozen? ⟨N, j, none⟩ = false := fun j => free_at HR.out j
  have qRl : N < W4.heap.size := HR.out.lt
  go_wp2_with fail
  go_at_call 16
  go_fit (HCK.out _ _ (HSV.out _ HT.out HL.out HS.out HD.out))
  rintro e W5 ⟨rfl, hB⟩
  clear qR0 qR1 qR2 qR3 qR4 qR5 qR6 qRz qRl
  replace HB := Lib.hid (HB.out.trans (hB.mono HB.out.size))
  replace HT := Lib.hid (HT0.out.below HB.out)
  replace HL := Lib.hid (HL0.out.below HB.out)
  replace HS := Lib.hid (HS0.out.below HB.out)
  replace HD := Lib.hid (HD0.out.below HB.out)
  replace HR := Lib.hid (HR.out.step hB)
  replace HO := Lib.hid (HO.out.step hB)
  replace O1 := Lib.hid (O1.out.step hB)
  replace O2 := Lib.hid (O2.out.step hB)
  replace O3 := Lib.hid (O3.out.step hB)
  replace O4 := Lib.hid (O4.out.step hB)
  clear hB
  cases C
  · skip
    have qO0 : W5.cell? ⟨(N + 1), 0, none⟩ = some (.int .i64 s.term) := cell_at HO.out 0
    have qO1 : W5.cell? ⟨(N + 1), 1, none⟩ = some (.int .i64 s.stamp) := cell_at HO.out 1
    have qO2 : W5.cell? ⟨(N + 1), 2, none⟩ = some (.int .i64 s.next) := cell_at HO.out 2
    have qO3 : W5.cell? ⟨(N + 1), 3, none⟩ = some (.slice b1 m1 k1) := cell_at HO.out 3
    have qO4 : W5.cell? ⟨(N + 1), 4, none⟩ = some (.slice b2 m2 k2) := cell_at HO.out 4
    have qO5 : W5.cell? ⟨(N + 1), 5, none⟩ = some (.slice b3 m3 k3) := cell_at HO.out 5
    have qO6 : W5.cell? ⟨(N + 1), 6, none⟩ = some (.slice b4 m4 k4) := cell_at HO.out 6
    have qOz : ∀ j, W5.frozen? ⟨(N + 1), j, none⟩ = false := fun j => free_at HO.out j
    have qOl : (N + 1) < W5.heap.size := HO.out.lt
    go_wp2_with fail
    clear qO0 qO1 qO2 qO3 qO4 qO5 qO6 qOz qOl
    obtain ⟨LS, hLS⟩ : ∃ L : List Value, L = [.int .i64 s.term, .int .i64 s.stamp, .int .i64 s.next, .slice b1 m1 k1, .slice b2 m2 k2, .slice b3 m3 k3, .slice b4 m4 k4] := ⟨_, rfl⟩
    obtain ⟨W6, hWS⟩ : ∃ WS, WS = W5.setCells (N + 1) 0 LS := ⟨_, rfl⟩
    have hch := hWS
    rw [hLS] at hch
    simp only [World.setCells, Nat.zero_add, Nat.reduceAdd] at hch
    rw [← hch]
    clear hch
    have hkS := stC_blk HO.out LS (by rw [hLS]; rfl)
    have hfS := stC_fr (N + 1) LS 0 W5
    rw [← hWS] at hkS hfS
    rw [hLS] at hkS
    replace HB := Lib.hid (HB.out.trans (hfS.below HB.out.size (by have := HLON.out; simp; try omega)))
    replace HT := Lib.hid (HT0.out.below HB.out)
    replace HL := Lib.hid (HL0.out.below HB.out)
    replace HS := Lib.hid (HS0.out.below HB.out)
    replace HD := Lib.hid (HD0.out.below HB.out)
    replace HR := Lib.hid (show Blk W6 N #[.int .i64 s.term, .int .i64 s.stamp, .int .i64 s.next, .slice ta tn tc, .slice la ln lc, .slice sa sn sc, .slice da dn dc] 27 from (hfS.block _ HR.out.lt (by simp; try omega)).trans HR.out)
    replace O1 := Lib.hid (O1.out.fr hfS (by have := FO1.out; omega))
    replace O2 := Lib.hid (O2.out.fr hfS (by have := FO2.out; omega))
    replace O3 := Lib.hid (O3.out.fr hfS (by have := FO3.out; omega))
    replace O4 := Lib.hid (O4.out.fr hfS (by have := FO4.out; omega))
    replace HO := Lib.hid (show Blk W6 (N + 1) #[.int .i64 s.term, .int .i64 s.stamp, .int .i64 s.next, .slice b1 m1 k1, .slice b2 m2 k2, .slice b3 m3 k3, .slice b4 m4 k4] 27 from hkS)
    clear hWS hLS hkS hfS
    have qO0 : W6.cell? ⟨(N + 1), 0, none⟩ = some (.int .i64 s.term) := cell_at HO.out 0
    have qO1 : W6.cell? ⟨(N + 1), 1, none⟩ = some (.int .i64 s.stamp) := cell_at HO.out 1
    have qO2 : W6.cell? ⟨(N + 1), 2, none⟩ = some (.int .i64 s.next) := cell_at HO.out 2
    have qO3 : W6.cell? ⟨(N + 1), 3, none⟩ = some (.slice b1 m1 k1) := cell_at HO.out 3
    have qO4 : W6.cell? ⟨(N + 1), 4, none⟩ = some (.slice b2 m2 k2) := cell_at HO.out 4
    have qO5 : W6.cell? ⟨(N + 1), 5, none⟩ = some (.slice b3 m3 k3) := cell_at HO.out 5
    have qO6 : W6.cell? ⟨(N + 1), 6, none⟩ = some (.slice b4 m4 k4) := cell_at HO.out 6
    have qOz : ∀ j, W6.frozen? ⟨(N + 1), j, none⟩ = false := fun j => free_at HO.out j
    have qOl : (N + 1) < W6.heap.size := HO.out.lt
    exact ⟨.agg #[.int .i64 s.term, .int .i64 s.stamp, .int .i64 s.next, .slice b1 m1 k1, .slice b2 m2 k2, .slice b3 m3 k3, .slice b4 m4 k4], by simp [results, Try.results18, go_sem, qO0, qO1, qO2, qO3, qO4, qO5, qO6], _, rfl, (by rw [show R = s from HR9.out]; exact ⟨_, _, _, _, rfl, tn_tv O1.out.v, O2.out.v, O3.out.v, O4.out.v⟩), HB.out⟩
  obtain rfl : R = sweptS ⟨s.term, s.stamp, s.next, s.ts.map (credT s.ls ticks), s.ls, s.ss, s.ds⟩ := HR9.out
  have HSZ9 := Lib.hid (HSZ.out rfl)
  have HF9 : Hid (fewS ⟨s.term, s.stamp, s.next, s.ts.map (credT s.ls ticks), s.ls, s.ss, s.ds⟩) := Lib.hid ⟨(by show (s.ts.map _).length ≤ 200; rw [List.length_map]; exact HFEW.out.1), HFEW.out.2.1, HFEW.out.2.2.1, HFEW.out.2.2.2⟩
  have HOB := Lib.hid (fun t => outL_bd s.ls t HSZ9.out)
  have HOU := Lib.hid (fun W v (h : SV W v s) => outs_any v s W h HFEW.out HSZ9.out)
  have qR0 : W5.cell? ⟨N, 0, none⟩ = some (.int .i64 s.term) := cell_at HR.out 0
  have qR1 : W5.cell? ⟨N, 1, none⟩ = some (.int .i64 s.stamp) := cell_at HR.out 1
  have qR2 : W5.cell? ⟨N, 2, none⟩ = some (.int .i64 s.next) := cell_at HR.out 2
  have qR3 : W5.cell? ⟨N, 3, none⟩ = some (.slice ta tn tc) := cell_at HR.out 3
  have qR4 : W5.cell? ⟨N, 4, none⟩ = some (.slice la ln lc) := cell_at HR.out 4
  have qR5 : W5.cell? ⟨N, 5, none⟩ = some (.slice sa sn sc) := cell_at HR.out 5
  have qR6 : W5.cell? ⟨N, 6, none⟩ = some (.slice da dn dc) := cell_at HR.out 6
  have qRz : ∀ j, W5.frozen? ⟨N, j, none⟩ = false := fun j => free_at HR.out j
  have qRl : N < W5.heap.size := HR.out.lt
  go_wp2_with fail
  go_at_call 32
  go_fit (HOU.out _ _ (HSV.out _ HT.out HL.out HS.out HD.out))
  rintro e W6 ⟨b, rfl, hmt, hB⟩
  clear qR0 qR1 qR2 qR3 qR4 qR5 qR6 qRz qRl
  replace HB := Lib.hid (HB.out.trans (hB.mono HB.out.size))
  replace HT := Lib.hid (HT0.out.below HB.out)
  replace HL := Lib.hid (HL0.out.below HB.out)
  replace HS := Lib.hid (HS0.out.below HB.out)
  replace HD := Lib.hid (HD0.out.below HB.out)
  replace HR := Lib.hid (HR.out.step hB)
  replace HO := Lib.hid (HO.out.step hB)
  replace O1 := Lib.hid (O1.out.step hB)
  replace O2 := Lib.hid (O2.out.step hB)
  replace O3 := Lib.hid (O3.out.step hB)
  replace O4 := Lib.hid (O4.out.step hB)
  clear hB
  have HM := Lib.hid hmt
  clear hmt
  obtain rfl : m1 = tn := Hb1.out.trans Htn.out.symm
  have qO0 : W6.cell? ⟨(N + 1), 0, none⟩ = some (.int .i64 s.term) := cell_at HO.out 0
  have qO1 : W6.cell? ⟨(N + 1), 1, none⟩ = some (.int .i64 s.stamp) := cell_at HO.out 1
  have qO2 : W6.cell? ⟨(N + 1), 2, none⟩ = some (.int .i64 s.next) := cell_at HO.out 2
  have qO3 : W6.cell? ⟨(N + 1), 3, none⟩ = some (.slice b1 m1 k1) := cell_at HO.out 3
  have qO4 : W6.cell? ⟨(N + 1), 4, none⟩ = some (.slice b2 m2 k2) := cell_at HO.out 4
  have qO5 : W6.cell? ⟨(N + 1), 5, none⟩ = some (.slice b3 m3 k3) := cell_at HO.out 5
  have qO6 : W6.cell? ⟨(N + 1), 6, none⟩ = some (.slice b4 m4 k4) := cell_at HO.out 6
  have qOz : ∀ j, W6.frozen? ⟨(N + 1), j, none⟩ = false := fun j => free_at HO.out j
  have qOl : (N + 1) < W6.heap.size := HO.out.lt
  have qR0 : W6.cell? ⟨N, 0, none⟩ = some (.int .i64 s.term) := cell_at HR.out 0
  have qR1 : W6.cell? ⟨N, 1, none⟩ = some (.int .i64 s.stamp) := cell_at HR.out 1
  have qR2 : W6.cell? ⟨N, 2, none⟩ = some (.int .i64 s.next) := cell_at HR.out 2
  have qR3 : W6.cell? ⟨N, 3, none⟩ = some (.slice ta m1 tc) := cell_at HR.out 3
  have qR4 : W6.cell? ⟨N, 4, none⟩ = some (.slice la ln lc) := cell_at HR.out 4
  have qR5 : W6.cell? ⟨N, 5, none⟩ = some (.slice sa sn sc) := cell_at HR.out 5
  have qR6 : W6.cell? ⟨N, 6, none⟩ = some (.slice da dn dc) := cell_at HR.out 6
  have qRz : ∀ j, W6.frozen? ⟨N, j, none⟩ = false := fun j => free_at HR.out j
  have qRl : N < W6.heap.size := HR.out.lt
  go_wp2_with fail
  clear qO0 qO1 qO2 qO3 qO4 qO5 qO6 qOz qOl qR0 qR1 qR2 qR3 qR4 qR5 qR6 qRz qRl
  have HO10 : Hid (TnO _ W6 _ ot (F 0)) := Lib.hid (by rw [HF0.out]; exact O1.out)
  obtain ⟨MM, hMM⟩ : ∃ M, TnO M W6 (.slice b1 m1 k1) ot (F 0) ∧ N + 1 < M ∧ w.heap.size ≤ M := ⟨_, HO10.out, FO1.out, HB0L.out⟩
  obtain ⟨hMM1, hMM2, hMM3⟩ := hMM
  have HMM1 := Lib.hid hMM1
  have HMM2 := Lib.hid hMM2
  have HMM3 := Lib.hid hMM3
  clear hMM1 hMM2 hMM3
  go_loopw [6, 7, 20] (fun _ _ k wr => ∃ i : Nat, i ≤ m1 ∧ k = .int .i64 i ∧ TnO MM wr (.slice b1 m1 k1) ot (F i) ∧ FrB W6.heap.size ot.toList W6 wr) (fun _ _ k _ => m1 - (intOf k).toNat)
  case atStart => exact ⟨0, Nat.zero_le _, rfl, HMM1.out, FrB.refl _ _ _⟩
  case round =>
    obtain ⟨i, hi, rfl, hrow, hfrb⟩ := hrel
    have HFRB := Lib.hid hfrb
    replace HB := Lib.hid (HB.out.trans (hfrb.below HB.out.size (by intro x hx; have := Option.mem_toList.1 hx; have h9 := hrow.2.2 x this; have := HMM3.out; omega)))
    replace HT := Lib.hid (HT0.out.below HB.out)
    replace HL := Lib.hid (HL0.out.below HB.out)
    replace HS := Lib.hid (HS0.out.below HB.out)
    replace HD := Lib.hid (HD0.out.below HB.out)
    replace HR := Lib.hid (HR.out.frBT O1.out hfrb (by decide))
    replace HO := Lib.hid (HO.out.frBT O1.out hfrb (by decide))
    replace HM := Lib.hid (HM.out.frBT O1.out hfrb)
    replace O2 := Lib.hid (O2.out.frBT O1.out hfrb)
    replace O3 := Lib.hid (O3.out.frBT O1.out hfrb)
    replace O4 := Lib.hid (O4.out.frBT O1.out hfrb)
    replace O1 := Lib.hid hrow
    have HBW : Hid (Below wr.heap.size wr wr) := Lib.hid (Below.refl _ _)
    clear hrow hfrb HO10
    by_cases hk : i < m1
    · skip
      have b9 : (i < m1) = True := eq_true hk
      have b8 : decide (i < m1) = true := decide_eq_true hk
      obtain ⟨gr, rfl, rfl⟩ : ∃ gr, ot = some gr ∧ b1 = some ⟨gr, 0, none⟩ := by
        rcases O1.out.1.cases with ⟨_, _, h0, _⟩ | ⟨gr, cap, cur, e1, e2, _⟩
        · exact absurd h0 (by rw [HFL.out i hi]; omega)
        · injection e2 with e3 e4 e5
          exact ⟨gr, e1, e3⟩
      obtain ⟨g, o, x, ea, g1, g2, q0, q1, q2, q3, q4⟩ := O1.out.v.at i hk
      injection ea with ea
      injection ea with ea1 ea2 _
      subst ea1 ea2
      obtain ⟨x', hx'⟩ : ∃ x', s.ts[i]? = some x' := ⟨_, List.getElem?_eq_getElem (by rw [← Htn.out]; exact hk)⟩
      obtain rfl : x' = x := Option.some.inj ((HFA.out i x' hx').symm.trans g2)
      have HFA2 := Lib.hid g2
      have HFS2 := Lib.hid (HFS.out i x' hx')
      have HG2 := Lib.hid (O1.out.2.2 gr rfl)
      have hox := O1.out.2.1 x' (List.mem_of_getElem? g2)
      have HOX := Lib.hid hox
      obtain ⟨ou, hou⟩ : ∃ ou, ou = outL s.ls x'.id := ⟨_, rfl⟩
      have hob := HOB.out x'.id
      rw [← hou, ← Hln.out] at hob
      have HOUE := Lib.hid hou
      obtain ⟨nb, hnb⟩ : ∃ nb, nb = creditS x'.bkt x'.rate x'.burst ou ticks := ⟨_, rfl⟩
      have hnbd := creditS_bd x'.bkt x'.rate x'.burst ou ticks
      rw [← hnb] at hnbd
      have HCR := Lib.hid (fun W => credit_any x'.bkt x'.rate x'.burst ou ticks (by have := HOX.out.2.2.2.1; omega) (by omega) W)
      rw [← hnb] at HCR
      have HCT : Hid (credT s.ls ticks x' = if x'.gone then x' else ⟨x'.id, x'.rate, x'.burst, nb, x'.gone⟩) := Lib.hid (by unfold credT; rw [← hou, ← hnb])
      obtain ⟨yg, hyg⟩ : ∃ yg, yg = x'.gone := ⟨_, rfl⟩
      rw [← hyg] at q4 HCT
      have ww5 : IntKind.i64.wrap ((i : Int) + 1) = (i : Int) + 1 := IntWalk.i64_in _ (by omega)
      obtain ⟨g3, e3, c3, z3⟩ := O1.out.1.cell (i * 5 + 3) (by rw [HFL.out i hi]; omega)
      obtain rfl := Option.some.inj e3
      have HZ3 := Lib.hid z3
      have HYG := Lib.hid hyg
      clear g2 hx' hox hou hnb e3 c3 z3 hyg
      simp only [Nat.zero_add] at q0 q1 q2 q3 q4
      have qO0 : wr.cell? ⟨(N + 1), 0, none⟩ = some (.int .i64 s.term) := cell_at HO.out 0
      have qO1 : wr.cell? ⟨(N + 1), 1, none⟩ = some (.int .i64 s.stamp) := cell_at HO.out 1
      have qO2 : wr.cell? ⟨(N + 1), 2, none⟩ = some (.int .i64 s.next) := cell_at HO.out 2
      have qO3 : wr.cell? ⟨(N + 1), 3, none⟩ = some (.slice (some ⟨gr, 0, none⟩) m1 k1) := cell_at HO.out 3
      have qO4 : wr.cell? ⟨(N + 1), 4, none⟩ = some (.slice b2 m2 k2) := cell_at HO.out 4
      have qO5 : wr.cell? ⟨(N + 1), 5, none⟩ = some (.slice b3 m3 k3) := cell_at HO.out 5
      have qO6 : wr.cell? ⟨(N + 1), 6, none⟩ = some (.slice b4 m4 k4) := cell_at HO.out 6
      have qOz : ∀ j, wr.frozen? ⟨(N + 1), j, none⟩ = false := fun j => free_at HO.out j
      have qOl : (N + 1) < wr.heap.size := HO.out.lt
      have qR0 : wr.cell? ⟨N, 0, none⟩ = some (.int .i64 s.term) := cell_at HR.out 0
      have qR1 : wr.cell? ⟨N, 1, none⟩ = some (.int .i64 s.stamp) := cell_at HR.out 1
      have qR2 : wr.cell? ⟨N, 2, none⟩ = some (.int .i64 s.next) := cell_at HR.out 2
      have qR3 : wr.cell? ⟨N, 3, none⟩ = some (.slice ta m1 tc) := cell_at HR.out 3
      have qR4 : wr.cell? ⟨N, 4, none⟩ = some (.slice la ln lc) := cell_at HR.out 4
      have qR5 : wr.cell? ⟨N, 5, none⟩ = some (.slice sa sn sc) := cell_at HR.out 5
      have qR6 : wr.cell? ⟨N, 6, none⟩ = some (.slice da dn dc) := cell_at HR.out 6
      have qRz : ∀ j, wr.frozen? ⟨N, j, none⟩ = false := fun j => free_at HR.out j
      have qRl : N < wr.heap.size := HR.out.lt
      go_upto_region 9 with fail
      clear qO0 qO1 qO2 qO3 qO4 qO5 qO6 qOz qOl qR0 qR1 qR2 qR3 qR4 qR5 qR6 qRz qRl
      obtain ⟨T9, hT9⟩ : ∃ n0, n0 = wr.heap.size := ⟨_, rfl⟩
      have HXT9HR : Hid (N < T9) := Lib.hid (by rw [hT9]; exact HR.out.lt)
      have HXT9HO : Hid ((N + 1) < T9) := Lib.hid (by rw [hT9]; exact HO.out.lt)
      have HUT9O1 : Hid (∀ g, some gr = some g → g < T9) := Lib.hid (fun g e => by rw [hT9]; first | (subst e; exact O1.out.1.lt) | (obtain rfl := Option.some.inj e; exact O1.out.1.lt))
      have HUT9O2 : Hid (∀ g, ol = some g → g < T9) := Lib.hid (fun g e => by rw [hT9]; first | (subst e; exact O2.out.1.lt) | (obtain rfl := Option.some.inj e; exact O2.out.1.lt))
      have HUT9O3 : Hid (∀ g, os = some g → g < T9) := Lib.hid (fun g e => by rw [hT9]; first | (subst e; exact O3.out.1.lt) | (obtain rfl := Option.some.inj e; exact O3.out.1.lt))
      have HUT9O4 : Hid (∀ g, od = some g → g < T9) := Lib.hid (fun g e => by rw [hT9]; first | (subst e; exact O4.out.1.lt) | (obtain rfl := Option.some.inj e; exact O4.out.1.lt))
      have HLOT9 : Hid (w.heap.size ≤ T9) := Lib.hid (by have := HB.out.size; omega)
      obtain ⟨W7, hA0⟩ : ∃ W0, W0 = wr.alloc (.cells #[.int .i64 x'.id, .int .i64 x'.rate, .int .i64 x'.burst, .int .i64 x'.bkt, .bool yg] 54) := ⟨_, rfl⟩
      have hB : Below wr.heap.size wr W7 := by rw [hA0]; exact (Below.refl _ _).alloc (Nat.le_refl _) _
      have hS0 : W7.heap.size = T9 + 1 := by rw [hA0]; simp [← hT9]
      have HT9 := Lib.hid (show Blk W7 T9 #[.int .i64 x'.id, .int .i64 x'.rate, .int .i64 x'.burst, .int .i64 x'.bkt, .bool yg] 54 by rw [hA0, hT9]; exact blk_new _ _ _)
      replace HB := Lib.hid (HB.out.trans (hB.mono HB.out.size))
      replace HT := Lib.hid (HT0.out.below HB.out)
      replace HL := Lib.hid (HL0.out.below HB.out)
      replace HS := Lib.hid (HS0.out.below HB.out)
      replace HD := Lib.hid (HD0.out.below HB.out)
      replace HR := Lib.hid (HR.out.step hB)
      replace HO := Lib.hid (HO.out.step hB)
      replace O1 := Lib.hid (O1.out.step hB)
      replace O2 := Lib.hid (O2.out.step hB)
      replace O3 := Lib.hid (O3.out.step hB)
      replace O4 := Lib.hid (O4.out.step hB)
      replace HM := Lib.hid (HM.out.step hB)
      replace HBW := Lib.hid (HBW.out.trans (hB.mono HBW.out.size))
      clear hB
      have HST9 := Lib.hid hS0
      rw [← hT9, ← hA0]
      clear hA0 hT9 hS0
      clear q0 q1 q2 q3 q4
      replace HG2 : Hid (_ ≤ gr) := HG2
      cases yg
      rotate_left
      · skip
        replace HFS2 : Hid (F (i + 1) = F i) := Lib.hid (by rw [HFS2.out, HCT.out]; exact set_id _ _ _ HFA2.out)
        have qT90 : W7.cell? ⟨T9, 0, none⟩ = some (.int .i64 x'.id) := cell_at HT9.out 0
        have qT91 : W7.cell? ⟨T9, 1, none⟩ = some (.int .i64 x'.rate) := cell_at HT9.out 1
        have qT92 : W7.cell? ⟨T9, 2, none⟩ = some (.int .i64 x'.burst) := cell_at HT9.out 2
        have qT93 : W7.cell? ⟨T9, 3, none⟩ = some (.int .i64 x'.bkt) := cell_at HT9.out 3
        have qT94 : W7.cell? ⟨T9, 4, none⟩ = some (.bool true) := cell_at HT9.out 4
        have qT9z : ∀ j, W7.frozen? ⟨T9, j, none⟩ = false := fun j => free_at HT9.out j
        have qT9l : T9 < W7.heap.size := HT9.out.lt
        have qO0 : W7.cell? ⟨(N + 1), 0, none⟩ = some (.int .i64 s.term) := cell_at HO.out 0
        have qO1 : W7.cell? ⟨(N + 1), 1, none⟩ = some (.int .i64 s.stamp) := cell_at HO.out 1
        have qO2 : W7.cell? ⟨(N + 1), 2, none⟩ = some (.int .i64 s.next) := cell_at HO.out 2
        have qO3 : W7.cell? ⟨(N + 1), 3, none⟩ = some (.slice (some ⟨gr, 0, none⟩) m1 k1) := cell_at HO.out 3
        have qO4 : W7.cell? ⟨(N + 1), 4, none⟩ = some (.slice b2 m2 k2) := cell_at HO.out 4
        have qO5 : W7.cell? ⟨(N + 1), 5, none⟩ = some (.slice b3 m3 k3) := cell_at HO.out 5
        have qO6 : W7.cell? ⟨(N + 1), 6, none⟩ = some (.slice b4 m4 k4) := cell_at HO.out 6
        have qOz : ∀ j, W7.frozen? ⟨(N + 1), j, none⟩ = false := fun j => free_at HO.out j
        have qOl : (N + 1) < W7.heap.size := HO.out.lt
        go_wp2_with fail
        go_roundw
        case rel => exact ⟨i + 1, by omega, by go_num, by rw [HFS2.out]; exact O1.out, HFRB.out.trans (FrB.of_below HBW.out HFRB.out.size)⟩
        case measure => first | (simp [intOf]; done) | (simp [intOf]; omega)
      replace HFS2 : Hid (F (i + 1) = (F i).set i ⟨x'.id, x'.rate, x'.burst, nb, x'.gone⟩) := Lib.hid (by rw [HFS2.out, HCT.out, ← HYG.out]; rfl)
      have qT90 : W7.cell? ⟨T9, 0, none⟩ = some (.int .i64 x'.id) := cell_at HT9.out 0
      have qT91 : W7.cell? ⟨T9, 1, none⟩ = some (.int .i64 x'.rate) := cell_at HT9.out 1
      have qT92 : W7.cell? ⟨T9, 2, none⟩ = some (.int .i64 x'.burst) := cell_at HT9.out 2
      have qT93 : W7.cell? ⟨T9, 3, none⟩ = some (.int .i64 x'.bkt) := cell_at HT9.out 3
      have qT94 : W7.cell? ⟨T9, 4, none⟩ = some (.bool false) := cell_at HT9.out 4
      have qT9z : ∀ j, W7.frozen? ⟨T9, j, none⟩ = false := fun j => free_at HT9.out j
      have qT9l : T9 < W7.heap.size := HT9.out.lt
      go_wp2_with fail
      refine wp_np ?_
      have HLKA := Lib.hid (fun X (h : MapT X b (fun c : Int => Value.agg #[.int .i64 c]) (outL s.ls)) => HKW.out X b _ x'.id h)
      rw [← HOUE.out] at HLKA
      clear qT90 qT91 qT92 qT93 qT94 qT9z qT9l
      refine wp_region_held_drew (S := fun X => (X.cell? ⟨(N + 1), 0, none⟩ = some (.int .i64 s.term) ∧ X.cell? ⟨(N + 1), 1, none⟩ = some (.int .i64 s.stamp) ∧ X.cell? ⟨(N + 1), 2, none⟩ = some (.int .i64 s.next) ∧ X.cell? ⟨(N + 1), 3, none⟩ = some (.slice (some ⟨gr, 0, none⟩) m1 k1) ∧ X.cell? ⟨(N + 1), 4, none⟩ = some (.slice b2 m2 k2) ∧ X.cell? ⟨(N + 1), 5, none⟩ = some (.slice b3 m3 k3) ∧ X.cell? ⟨(N + 1), 6, none⟩ = some (.slice b4 m4 k4) ∧ (N + 1) < X.heap.size) ∧ (X.cell? ⟨T9, 0, none⟩ = some (.int .i64 x'.id) ∧ X.cell? ⟨T9, 1, none⟩ = some (.int .i64 x'.rate) ∧ X.cell? ⟨T9, 2, none⟩ = some (.int .i64 x'.burst) ∧ X.cell? ⟨T9, 3, none⟩ = some (.int .i64 x'.bkt) ∧ X.cell? ⟨T9, 4, none⟩ = some (.bool false) ∧ T9 < X.heap.size) ∧ (Instr.lookup 63 (.map (some b)) (.agg #[.int .i64 x'.id]) false).run Try.prog X = .ok (.int .i64 ou) X) (by kernel_rfl) ⟨⟨cell_at HO.out 0, cell_at HO.out 1, cell_at HO.out 2, cell_at HO.out 3, cell_at HO.out 4, cell_at HO.out 5, cell_at HO.out 6, HO.out.lt⟩, ⟨cell_at HT9.out 0, cell_at HT9.out 1, cell_at HT9.out 2, cell_at HT9.out 3, cell_at HT9.out 4, HT9.out.lt⟩, (HLKA.out _ (by first | exact HM.out | exact HM.out.congr rfl))⟩ (fun hHeld => ?_)
      ((refine wpAnyH_take (i := 0) (v := ?_) (by (simp only [List.getElem?_toArray, List.getElem?_cons_succ, List.getElem?_cons_zero]); rfl) (by kernel_rfl) (by kernel_rfl) (by kernel_rfl) (by exact fun _ _ _ h => h) (Or.inl ⟨by rfl, ?_⟩) (by assumption) ?_); rotate_left; focus (intro wS hSw; (try dsimp only at hSw); go_simp; first | done | with_reducible rfl); try simp only [Act.put, List.setIfInBounds_toArray, List.set_cons_zero, List.set_cons_succ])
      ((refine wpAnyH_take (i := 1) (v := ?_) (by (simp only [List.getElem?_toArray, List.getElem?_cons_succ, List.getElem?_cons_zero]); rfl) (by kernel_rfl) (by kernel_rfl) (by kernel_rfl) (by exact fun _ _ _ h => h) (Or.inl ⟨by rfl, ?_⟩) (by assumption) ?_); rotate_left; focus (intro wS hSw; (try dsimp only at hSw); go_simp; first | done | with_reducible rfl); try simp only [Act.put, List.setIfInBounds_toArray, List.set_cons_zero, List.set_cons_succ])
      ((refine wpAnyH_take (i := 2) (v := ?_) (by (simp only [List.getElem?_toArray, List.getElem?_cons_succ, List.getElem?_cons_zero]); rfl) (by kernel_rfl) (by kernel_rfl) (by kernel_rfl) (by exact fun _ _ _ h => h) (Or.inl ⟨by rfl, ?_⟩) (by assumption) ?_); rotate_left; focus (intro wS hSw; (try dsimp only at hSw); go_simp; first | done | with_reducible rfl); try simp only [Act.put, List.setIfInBounds_toArray, List.set_cons_zero, List.set_cons_succ])
      ((refine wpAnyH_take (i := 3) (v := ?_) (by (simp only [List.getElem?_toArray, List.getElem?_cons_succ, List.getElem?_cons_zero]); rfl) (by kernel_rfl) (by kernel_rfl) (by kernel_rfl) (by exact fun _ _ _ h => h) (Or.inl ⟨by rfl, ?_⟩) (by assumption) ?_); rotate_left; focus (intro wS hSw; (try dsimp only at hSw); go_simp; first | done | with_reducible rfl); try simp only [Act.put, List.setIfInBounds_toArray, List.set_cons_zero, List.set_cons_succ])
      ((refine wpAnyH_take (i := 4) (v := ?_) (by (simp only [List.getElem?_toArray, List.getElem?_cons_succ, List.getElem?_cons_zero]); rfl) (by kernel_rfl) (by kernel_rfl) (by kernel_rfl) (by exact fun _ _ _ h => h) (Or.inl ⟨by rfl, ?_⟩) (by assumption) ?_); rotate_left; focus (intro wS hSw; (try dsimp only at hSw); go_simp; first | done | with_reducible rfl); try simp only [Act.put, List.setIfInBounds_toArray, List.set_cons_zero, List.set_cons_succ])
      ((refine wpAnyH_take (i := 5) (v := ?_) (by (simp only [List.getElem?_toArray, List.getElem?_cons_succ, List.getElem?_cons_zero]); rfl) (by kernel_rfl) (by kernel_rfl) (by kernel_rfl) (by exact fun _ _ _ h => h) (Or.inl ⟨by rfl, ?_⟩) (by assumption) ?_); rotate_left; focus (intro wS hSw; (try dsimp only at hSw); go_simp; first | done | with_reducible rfl); try simp only [Act.put, List.setIfInBounds_toArray, List.set_cons_zero, List.set_cons_succ])
      ((refine wpAnyH_take (i := 6) (v := ?_) (by (simp only [List.getElem?_toArray, List.getElem?_cons_succ, List.getElem?_cons_zero]); rfl) (by kernel_rfl) (by kernel_rfl) (by kernel_rfl) (by exact fun _ _ _ h => h) (Or.inl ⟨by rfl, ?_⟩) (by assumption) ?_); rotate_left; focus (intro wS hSw; (try dsimp only at hSw); go_simp; first | done | with_reducible rfl); try simp only [Act.put, List.setIfInBounds_toArray, List.set_cons_zero, List.set_cons_succ])
      ((refine wpAnyH_take (i := 7) (v := ?_) (by (simp only [List.getElem?_toArray, List.getElem?_cons_succ, List.getElem?_cons_zero]); rfl) (by kernel_rfl) (by kernel_rfl) (by kernel_rfl) (by exact fun _ _ _ h => h) (Or.inl ⟨by rfl, ?_⟩) (by assumption) ?_); rotate_left; focus (intro wS hSw; (try dsimp only at hSw); go_simp; first | done | with_reducible rfl); try simp only [Act.put, List.setIfInBounds_toArray, List.set_cons_zero, List.set_cons_succ])
      ((refine wpAnyH_take (i := 8) (v := ?_) (by (simp only [List.getElem?_toArray, List.getElem?_cons_succ, List.getElem?_cons_zero]); rfl) (by kernel_rfl) (by kernel_rfl) (by kernel_rfl) (by exact fun _ _ _ h => h) (Or.inl ⟨by rfl, ?_⟩) (by assumption) ?_); rotate_left; focus (intro wS hSw; (try dsimp only at hSw); go_simp; first | done | with_reducible rfl); try simp only [Act.put, List.setIfInBounds_toArray, List.set_cons_zero, List.set_cons_succ])
      ((refine wpAnyH_take (i := 9) (v := ?_) (by (simp only [List.getElem?_toArray, List.getElem?_cons_succ, List.getElem?_cons_zero]); rfl) (by kernel_rfl) (by kernel_rfl) (by kernel_rfl) (by exact fun _ _ _ h => h) (Or.inl ⟨by rfl, ?_⟩) (by assumption) ?_); rotate_left; focus (intro wS hSw; (try dsimp only at hSw); go_simp; first | done | with_reducible rfl); try simp only [Act.put, List.setIfInBounds_toArray, List.set_cons_zero, List.set_cons_succ])
      ((refine wpAnyH_take (i := 10) (v := ?_) (by (simp only [List.getElem?_toArray, List.getElem?_cons_succ, List.getElem?_cons_zero]); rfl) (by kernel_rfl) (by kernel_rfl) (by kernel_rfl) (by exact fun _ _ _ h => h) (Or.inl ⟨by rfl, ?_⟩) (by assumption) ?_); rotate_left; focus (intro wS hSw; (try dsimp only at hSw); go_simp; first | done | with_reducible rfl); try simp only [Act.put, List.setIfInBounds_toArray, List.set_cons_zero, List.set_cons_succ])
      ((refine wpAnyH_take (i := 11) (v := ?_) (by (simp only [List.getElem?_toArray, List.getElem?_cons_succ, List.getElem?_cons_zero]); rfl) (by kernel_rfl) (by kernel_rfl) (by kernel_rfl) (by exact fun _ _ _ h => h) (Or.inl ⟨by rfl, ?_⟩) (by assumption) ?_); rotate_left; focus (intro wS hSw; (try dsimp only at hSw); go_simp; first | done | with_reducible rfl); try simp only [Act.put, List.setIfInBounds_toArray, List.set_cons_zero, List.set_cons_succ])
      ((refine wpAnyH_take (i := 12) (v := ?_) (by (simp only [List.getElem?_toArray, List.getElem?_cons_succ, List.getElem?_cons_zero]); rfl) (by kernel_rfl) (by kernel_rfl) (by kernel_rfl) (by exact fun _ _ _ h => h) (Or.inl ⟨by rfl, ?_⟩) (by assumption) ?_); rotate_left; focus (intro wS hSw; (try dsimp only at hSw); go_simp; first | done | with_reducible rfl); try simp only [Act.put, List.setIfInBounds_toArray, List.set_cons_zero, List.set_cons_succ])
      ((refine wpAnyH_take (i := 13) (v := ?_) (by (simp only [List.getElem?_toArray, List.getElem?_cons_succ, List.getElem?_cons_zero]); rfl) (by kernel_rfl) (by kernel_rfl) (by kernel_rfl) (by exact fun _ _ _ h => h) (Or.inl ⟨by rfl, ?_⟩) (by assumption) ?_); rotate_left; focus (intro wS hSw; (try dsimp only at hSw); go_simp; first | done | with_reducible rfl); try simp only [Act.put, List.setIfInBounds_toArray, List.set_cons_zero, List.set_cons_succ])
      ((refine wpAnyH_take (i := 14) (v := ?_) (by (simp only [List.getElem?_toArray, List.getElem?_cons_succ, List.getElem?_cons_zero]); rfl) (by kernel_rfl) (by kernel_rfl) (by kernel_rfl) (by exact fun _ _ _ h => h) (Or.inl ⟨by rfl, ?_⟩) (by assumption) ?_); rotate_left; focus (intro wS hSw; (try dsimp only at hSw); go_simp; first | done | with_reducible rfl); try simp only [Act.put, List.setIfInBounds_toArray, List.set_cons_zero, List.set_cons_succ])
      refine wpAnyH_ready (rs := [15]) (by kernel_rfl) (by simp) ?_
      refine AllReadyH.cons (by (simp only [List.getElem?_toArray, List.getElem?_cons_succ, List.getElem?_cons_zero]); rfl) (fun K hK => ?_) AllReadyH.nil
      go_simp
      go_fit (HCR.out _)
      rintro e W8 ⟨rfl, hB⟩
      replace hB := below_undrew hB
      replace HB := Lib.hid (HB.out.trans (hB.mono HB.out.size))
      replace HT := Lib.hid (HT0.out.below HB.out)
      replace HL := Lib.hid (HL0.out.below HB.out)
      replace HS := Lib.hid (HS0.out.below HB.out)
      replace HD := Lib.hid (HD0.out.below HB.out)
      replace HR := Lib.hid (HR.out.step hB)
      replace HO := Lib.hid (HO.out.step hB)
      replace O1 := Lib.hid (O1.out.step hB)
      replace O2 := Lib.hid (O2.out.step hB)
      replace O3 := Lib.hid (O3.out.step hB)
      replace O4 := Lib.hid (O4.out.step hB)
      replace HM := Lib.hid (HM.out.step hB)
      replace HBW := Lib.hid (HBW.out.trans (hB.mono HBW.out.size))
      replace HT9 := Lib.hid (HT9.out.step hB)
      go_wp2_with fail
      refine hK.out _ _ ⟨⟨cell_at HO.out 0, cell_at HO.out 1, cell_at HO.out 2, cell_at HO.out 3, cell_at HO.out 4, cell_at HO.out 5, cell_at HO.out 6, HO.out.lt⟩, ⟨cell_at HT9.out 0, cell_at HT9.out 1, cell_at HT9.out 2, cell_at HT9.out 3, cell_at HT9.out 4, HT9.out.lt⟩, (HLKA.out _ (by first | exact HM.out | exact HM.out.congr rfl))⟩ (fun hHeld => ?_)
      clear hK K hB
      try simp only [Act.put, List.setIfInBounds_toArray, List.set_cons_zero, List.set_cons_succ]
      ((refine wpAnyH_take (i := 16) (v := ?_) (by (simp only [List.getElem?_toArray, List.getElem?_cons_succ, List.getElem?_cons_zero]); rfl) (by kernel_rfl) (by kernel_rfl) (by kernel_rfl) (by exact fun _ _ _ h => h) (Or.inl ⟨by rfl, ?_⟩) (by assumption) ?_); rotate_left; focus (intro wS hSw; (try dsimp only at hSw); go_simp; first | done | with_reducible rfl); try simp only [Act.put, List.setIfInBounds_toArray, List.set_cons_zero, List.set_cons_succ])
      ((refine wpAnyH_take (i := 17) (v := ?_) (by (simp only [List.getElem?_toArray, List.getElem?_cons_succ, List.getElem?_cons_zero]); rfl) (by kernel_rfl) (by kernel_rfl) (by kernel_rfl) (by exact fun _ _ _ h => h) (Or.inl ⟨by rfl, ?_⟩) (by assumption) ?_); rotate_left; focus (intro wS hSw; (try dsimp only at hSw); go_simp; first | done | with_reducible rfl); try simp only [Act.put, List.setIfInBounds_toArray, List.set_cons_zero, List.set_cons_succ])
      have c6 : W8.cell? ⟨gr, i * 5 + 3, none⟩ = some (.int .i64 x'.bkt) := by
        obtain ⟨g, o, x, ea, g1, g2, q0, q1, q2, q3, q4⟩ := O1.out.v.at i hk
        injection ea with ea
        injection ea with ea1 ea2 _
        subst ea1 ea2
        obtain rfl : x' = x := Option.some.inj (HFA2.out.symm.trans g2)
        simpa using q3
      have z6 : W8.frozen? ⟨gr, i * 5 + 3, none⟩ = false := by
        obtain ⟨g3, e3, c3, z3⟩ := O1.out.1.cell (i * 5 + 3) (by rw [HFL.out i hi]; omega)
        obtain rfl := Option.some.inj e3
        exact z3
      have l6 : gr < W8.heap.size := O1.out.1.lt
      refine wpAnyH_ready (rs := [18]) (by kernel_rfl) (by simp) ?_
      refine AllReadyH.cons (by (simp only [List.getElem?_toArray, List.getElem?_cons_succ, List.getElem?_cons_zero]); rfl) (fun K hK => ?_) AllReadyH.nil
      rw [if_pos (by rfl)]
      go_simp
      obtain ⟨W9, hWS⟩ : ∃ WS, WS = W8.setCell ⟨gr, i * 5 + 3, none⟩ (.int .i64 nb) := ⟨_, rfl⟩
      rw [← hWS]
      have hfS : Fr [gr] W8 W9 := by rw [hWS]; exact (Fr.refl _ _).setCell _ (.inl (by simp)) _
      have hO1 := O1.out.setBkt HFA2.out nb (by omega)
      rw [← hWS] at hO1
      have hfB : FrB W8.heap.size (some gr).toList W8 W9 := FrB.of_fr hfS (Nat.le_refl _)
      replace HM := Lib.hid (HM.out.frBT O1.out hfB)
      replace HO := Lib.hid (HO.out.frBT O1.out hfB (by decide))
      have hne9 : T9 ≠ gr := by have h1 := HUT9O1.out gr rfl; omega
      replace HT9 := Lib.hid (show Blk _ T9 _ _ from (hfS.block T9 HT9.out.lt (by simpa using hne9)).trans HT9.out)
      replace O1 := Lib.hid hO1
      refine hK.out _ _ ⟨⟨cell_at HO.out 0, cell_at HO.out 1, cell_at HO.out 2, cell_at HO.out 3, cell_at HO.out 4, cell_at HO.out 5, cell_at HO.out 6, HO.out.lt⟩, ⟨cell_at HT9.out 0, cell_at HT9.out 1, cell_at HT9.out 2, cell_at HT9.out 3, cell_at HT9.out 4, HT9.out.lt⟩, (HLKA.out _ (by first | exact HM.out | exact HM.out.congr rfl))⟩ (fun hHeld => ?_)
      have HFB := Lib.hid hfB
      clear hK K hO1 hfS hfB hWS c6 z6 l6
      refine wpAnyH_done (by kernel_rfl) ?_ _
      simp only [NoPan]
      try simp only [Act.put, List.setIfInBounds_toArray, List.set_cons_zero, List.set_cons_succ]
      go_wp2_with fail
      go_roundw
      case rel => exact ⟨i + 1, by omega, by go_num, by rw [HFS2.out]; exact O1.out, HFRB.out.trans ((FrB.of_below HBW.out HFRB.out.size).trans (HFB.out.mono0 (Nat.le_trans HFRB.out.size HBW.out.size)))⟩
      case measure => first | (simp [intOf]; done) | (simp [intOf]; omega)
    · skip
      have b9 : (i < m1) = False := eq_false hk
      have b8 : decide (i < m1) = false := decide_eq_false hk
      obtain rfl : m1 = i := by omega
      rw [HFE.out] at O1
      replace FO1 := HMM2
      have qO0 : wr.cell? ⟨(N + 1), 0, none⟩ = some (.int .i64 s.term) := cell_at HO.out 0
      have qO1 : wr.cell? ⟨(N + 1), 1, none⟩ = some (.int .i64 s.stamp) := cell_at HO.out 1
      have qO2 : wr.cell? ⟨(N + 1), 2, none⟩ = some (.int .i64 s.next) := cell_at HO.out 2
      have qO3 : wr.cell? ⟨(N + 1), 3, none⟩ = some (.slice b1 m1 k1) := cell_at HO.out 3
      have qO4 : wr.cell? ⟨(N + 1), 4, none⟩ = some (.slice b2 m2 k2) := cell_at HO.out 4
      have qO5 : wr.cell? ⟨(N + 1), 5, none⟩ = some (.slice b3 m3 k3) := cell_at HO.out 5
      have qO6 : wr.cell? ⟨(N + 1), 6, none⟩ = some (.slice b4 m4 k4) := cell_at HO.out 6
      have qOz : ∀ j, wr.frozen? ⟨(N + 1), j, none⟩ = false := fun j => free_at HO.out j
      have qOl : (N + 1) < wr.heap.size := HO.out.lt
      go_wp2_with fail
      clear qO0 qO1 qO2 qO3 qO4 qO5 qO6 qOz qOl
      obtain ⟨LS, hLS⟩ : ∃ L : List Value, L = [.int .i64 s.term, .int .i64 s.stamp, .int .i64 s.next, .slice b1 m1 k1, .slice b2 m2 k2, .slice b3 m3 k3, .slice b4 m4 k4] := ⟨_, rfl⟩
      obtain ⟨W7, hWS⟩ : ∃ WS, WS = wr.setCells (N + 1) 0 LS := ⟨_, rfl⟩
      have hch := hWS
      rw [hLS] at hch
      simp only [World.setCells, Nat.zero_add, Nat.reduceAdd] at hch
      rw [← hch]
      clear hch
      have hkS := stC_blk HO.out LS (by rw [hLS]; rfl)
      have hfS := stC_fr (N + 1) LS 0 wr
      rw [← hWS] at hkS hfS
      rw [hLS] at hkS
      replace HB := Lib.hid (HB.out.trans (hfS.below HB.out.size (by have := HLON.out; simp; try omega)))
      replace HT := Lib.hid (HT0.out.below HB.out)
      replace HL := Lib.hid (HL0.out.below HB.out)
      replace HS := Lib.hid (HS0.out.below HB.out)
      replace HD := Lib.hid (HD0.out.below HB.out)
      replace HR := Lib.hid (show Blk W7 N #[.int .i64 s.term, .int .i64 s.stamp, .int .i64 s.next, .slice ta m1 tc, .slice la ln lc, .slice sa sn sc, .slice da dn dc] 27 from (hfS.block _ HR.out.lt (by simp; try omega)).trans HR.out)
      replace O1 := Lib.hid (O1.out.fr hfS (by have := FO1.out; omega))
      replace O2 := Lib.hid (O2.out.fr hfS (by have := FO2.out; omega))
      replace O3 := Lib.hid (O3.out.fr hfS (by have := FO3.out; omega))
      replace O4 := Lib.hid (O4.out.fr hfS (by have := FO4.out; omega))
      replace HO := Lib.hid (show Blk W7 (N + 1) #[.int .i64 s.term, .int .i64 s.stamp, .int .i64 s.next, .slice b1 m1 k1, .slice b2 m2 k2, .slice b3 m3 k3, .slice b4 m4 k4] 27 from hkS)
      clear hWS hLS hkS hfS
      refine leaves_cons (f := 37) (args := #[.pointer (some ⟨(N + 1), 0, none⟩)]) (by simp) (by simp [go_sem]) ?_
      refine (credit1_d .returning _ _ _ _ (⟨s.term, s.stamp, s.next, s.ts.map (credT s.ls ticks), s.ls, s.ss, s.ds⟩) (N + 1) _ HO.out (tn_tv O1.out.v) O2.out.v O3.out.v O4.out.v HF9.out HSZ9.out).mono ?_
      rintro e u9 W8 ⟨rfl, vt9, rfl, hO9, hQ9, hF9⟩
      have z0 : W8.cell? ⟨(N + 1), 0, none⟩ = some (.int .i64 s.term) := cell_at hO9 0
      have z1 : W8.cell? ⟨(N + 1), 1, none⟩ = some (.int .i64 s.stamp) := cell_at hO9 1
      have z2 : W8.cell? ⟨(N + 1), 2, none⟩ = some (.int .i64 s.next) := cell_at hO9 2
      have z3 : W8.cell? ⟨(N + 1), 3, none⟩ = some (vt9) := cell_at hO9 3
      have z4 : W8.cell? ⟨(N + 1), 4, none⟩ = some (.slice b2 m2 k2) := cell_at hO9 4
      have z5 : W8.cell? ⟨(N + 1), 5, none⟩ = some (.slice b3 m3 k3) := cell_at hO9 5
      have z6 : W8.cell? ⟨(N + 1), 6, none⟩ = some (.slice b4 m4 k4) := cell_at hO9 6
      exact ⟨.agg #[.int .i64 s.term, .int .i64 s.stamp, .int .i64 s.next, vt9, .slice b2 m2 k2, .slice b3 m3 k3, .slice b4 m4 k4], by simp [results, Try.results18, go_sem, z0, z1, z2, z3, z4, z5, z6], _, rfl, ⟨_, _, _, _, rfl, hQ9, (O2.out.fr hF9 (by have := FO2.out; omega)).v, (O3.out.fr hF9 (by have := FO3.out; omega)).v, (O4.out.fr hF9 (by have := FO4.out; omega)).v⟩, HB.out.trans (hF9.below HB.out.size (by have := HLON.out; simp; omega))⟩
end Go.Proofs.Ytfgnjpdlchimpaa
namespace Go.Proofs.Ytfgnjpdlchimpaa
open Go.RowKit
set_option linter.unusedSimpArgs false
set_option linter.unusedVariables false

set_option maxRecDepth 100000 in
set_option maxHeartbeats 8000000 in
theorem rcopyO_any (v : Value) (s : StE) (w : World) (h : SV w v s) (hf : fewS s) :
    Calls Try.prog 40 #[v] w fun e w' => ∃ v', e = .returned v' ∧ SVO w.heap.size w' v' s ∧ Below w.heap.size w w' := by
  obtain ⟨f1, f2, f3, f4⟩ := hf
  obtain ⟨vt, vl, vs, vd, rfl, ht, hl, hs, hd⟩ := h
  obtain ⟨ta, tn, tc, rfl, Htn, tn1, tn2⟩ := ht.sh
  obtain ⟨la, ln, lc, rfl, Hln, ln1, ln2⟩ := hl.sh
  obtain ⟨sa, sn, sc, rfl, Hsn, sn1, sn2⟩ := hs.sh
  obtain ⟨da, dn, dc, rfl, Hdn, dn1, dn2⟩ := hd.sh
  have HT0 := Lib.hid ht
  have HL0 := Lib.hid hl
  have HS0 := Lib.hid hs
  have HD0 := Lib.hid hd
  have HT := Lib.hid ht
  have HL := Lib.hid hl
  have HS := Lib.hid hs
  have HD := Lib.hid hd
  clear ht hl hs hd
  have HB : Hid (Below w.heap.size w w) := Lib.hid (Below.refl _ _)
  go_enter Try.func40, Try.ntmps40
  go_upto_region 1 with fail
  obtain ⟨N, hN⟩ : ∃ n0, n0 = w.heap.size := ⟨_, rfl⟩
  have HLON : Hid (w.heap.size ≤ N) := Lib.hid (by have := HB.out.size; omega)
  obtain ⟨W1, hA0⟩ : ∃ W0, W0 = w.alloc (.cells #[.int .i64 s.term, .int .i64 s.stamp, .int .i64 s.next, .slice ta tn tc, .slice la ln lc, .slice sa sn sc, .slice da dn dc] 27) := ⟨_, rfl⟩
  have hB : Below w.heap.size w W1 := by rw [hA0]; exact (Below.refl _ _).alloc (Nat.le_refl _) _
  have hS0 : W1.heap.size = N + 1 := by rw [hA0]; simp [← hN]
  have HR := Lib.hid (show Blk W1 N #[.int .i64 s.term, .int .i64 s.stamp, .int .i64 s.next, .slice ta tn tc, .slice la ln lc, .slice sa sn sc, .slice da dn dc] 27 by rw [hA0, hN]; exact blk_new _ _ _)
  replace HB := Lib.hid (HB.out.trans (hB.mono HB.out.size))
  replace HT := Lib.hid (HT0.out.below HB.out)
  replace HL := Lib.hid (HL0.out.below HB.out)
  replace HS := Lib.hid (HS0.out.below HB.out)
  replace HD := Lib.hid (HD0.out.below HB.out)
  clear hB
  obtain ⟨W2, hA1⟩ : ∃ W0, W0 = W1.alloc (.cells #[.int .i64 0, .int .i64 0, .int .i64 0, .slice none 0 0, .slice none 0 0, .slice none 0 0, .slice none 0 0] 27) := ⟨_, rfl⟩
  have hB : Below W1.heap.size W1 W2 := by rw [hA1]; exact (Below.refl _ _).alloc (Nat.le_refl _) _
  have hS1 : W2.heap.size = N + 2 := by rw [hA1]; simp [hS0]
  have HK1 := Lib.hid (show Blk W2 (N + 1) #[.int .i64 0, .int .i64 0, .int .i64 0, .slice none 0 0, .slice none 0 0, .slice none 0 0, .slice none 0 0] 27 by rw [hA1, ← hS0]; exact blk_new _ _ _)
  replace HB := Lib.hid (HB.out.trans (hB.mono HB.out.size))
  replace HT := Lib.hid (HT0.out.below HB.out)
  replace HL := Lib.hid (HL0.out.below HB.out)
  replace HS := Lib.hid (HS0.out.below HB.out)
  replace HD := Lib.hid (HD0.out.below HB.out)
  replace HR := Lib.hid (HR.out.step hB)
  clear hB
  have HSN := Lib.hid hS1
  rw [← hN, ← hA0, ← hA1]
  clear hA1 hA0 hN hS0 hS1
  have qR0 : W2.cell? ⟨N, 0, none⟩ = some (.int .i64 s.term) := cell_at HR.out 0
  have qR1 : W2.cell? ⟨N, 1, none⟩ = some (.int .i64 s.stamp) := cell_at HR.out 1
  have qR2 : W2.cell? ⟨N, 2, none⟩ = some (.int .i64 s.next) := cell_at HR.out 2
  have qR3 : W2.cell? ⟨N, 3, none⟩ = some (.slice ta tn tc) := cell_at HR.out 3
  have qR4 : W2.cell? ⟨N, 4, none⟩ = some (.slice la ln lc) := cell_at HR.out 4
  have qR5 : W2.cell? ⟨N, 5, none⟩ = some (.slice sa sn sc) := cell_at HR.out 5
  have qR6 : W2.cell? ⟨N, 6, none⟩ = some (.slice da dn dc) := cell_at HR.out 6
  have qRz : ∀ j, W2.frozen? ⟨N, j, none⟩ = false := fun j => free_at HR.out j
  have qRl : N < W2.heap.size := HR.out.lt
  go_upto_region 6 with fail
  clear qR0 qR1 qR2 qR3 qR4 qR5 qR6 qRz qRl
  obtain ⟨M, hM⟩ : ∃ n0, n0 = W2.heap.size := ⟨_, rfl⟩
  have HXMHR : Hid (N < M) := Lib.hid (by rw [hM]; exact HR.out.lt)
  have HXMHK1 : Hid ((N + 1) < M) := Lib.hid (by rw [hM]; exact HK1.out.lt)
  have HLOM : Hid (w.heap.size ≤ M) := Lib.hid (by have := HB.out.size; omega)
  obtain ⟨W3, hA0⟩ : ∃ W0, W0 = W2.alloc (.cells #[.int .i64 s.term, .int .i64 s.stamp, .int .i64 s.next, .slice none 0 0, .slice none 0 0, .slice none 0 0, .slice none 0 0] 27) := ⟨_, rfl⟩
  have hB : Below W2.heap.size W2 W3 := by rw [hA0]; exact (Below.refl _ _).alloc (Nat.le_refl _) _
  have hS0 : W3.heap.size = M + 1 := by rw [hA0]; simp [← hM]
  have HM := Lib.hid (show Blk W3 M #[.int .i64 s.term, .int .i64 s.stamp, .int .i64 s.next, .slice none 0 0, .slice none 0 0, .slice none 0 0, .slice none 0 0] 27 by rw [hA0, hM]; exact blk_new _ _ _)
  replace HB := Lib.hid (HB.out.trans (hB.mono HB.out.size))
  replace HT := Lib.hid (HT0.out.below HB.out)
  replace HL := Lib.hid (HL0.out.below HB.out)
  replace HS := Lib.hid (HS0.out.below HB.out)
  replace HD := Lib.hid (HD0.out.below HB.out)
  replace HR := Lib.hid (HR.out.step hB)
  replace HK1 := Lib.hid (HK1.out.step hB)
  clear hB
  have HSM := Lib.hid hS0
  rw [← hM, ← hA0]
  clear hA0 hM hS0
  have qR0 : W3.cell? ⟨N, 0, none⟩ = some (.int .i64 s.term) := cell_at HR.out 0
  have qR1 : W3.cell? ⟨N, 1, none⟩ = some (.int .i64 s.stamp) := cell_at HR.out 1
  have qR2 : W3.cell? ⟨N, 2, none⟩ = some (.int .i64 s.next) := cell_at HR.out 2
  have qR3 : W3.cell? ⟨N, 3, none⟩ = some (.slice ta tn tc) := cell_at HR.out 3
  have qR4 : W3.cell? ⟨N, 4, none⟩ = some (.slice la ln lc) := cell_at HR.out 4
  have qR5 : W3.cell? ⟨N, 5, none⟩ = some (.slice sa sn sc) := cell_at HR.out 5
  have qR6 : W3.cell? ⟨N, 6, none⟩ = some (.slice da dn dc) := cell_at HR.out 6
  have qRz : ∀ j, W3.frozen? ⟨N, j, none⟩ = false := fun j => free_at HR.out j
  have qRl : N < W3.heap.size := HR.out.lt
  have qM0 : W3.cell? ⟨M, 0, none⟩ = some (.int .i64 s.term) := cell_at HM.out 0
  have qM1 : W3.cell? ⟨M, 1, none⟩ = some (.int .i64 s.stamp) := cell_at HM.out 1
  have qM2 : W3.cell? ⟨M, 2, none⟩ = some (.int .i64 s.next) := cell_at HM.out 2
  have qM3 : W3.cell? ⟨M, 3, none⟩ = some (.slice none 0 0) := cell_at HM.out 3
  have qM4 : W3.cell? ⟨M, 4, none⟩ = some (.slice none 0 0) := cell_at HM.out 4
  have qM5 : W3.cell? ⟨M, 5, none⟩ = some (.slice none 0 0) := cell_at HM.out 5
  have qM6 : W3.cell? ⟨M, 6, none⟩ = some (.slice none 0 0) := cell_at HM.out 6
  have qMz : ∀ j, W3.frozen? ⟨M, j, none⟩ = false := fun j => free_at HM.out j
  have qMl : M < W3.heap.size := HM.out.lt
  have HL1 : Hid (w.heap.size ≤ W3.heap.size) := Lib.hid HB.out.size
  obtain ⟨v1, ob1, W4, hrun, hor, hBM⟩ := tn_app (ty := 22) (tn9o_nil W3 _) (tv_tn HT.out) (Nat.le_refl _) (by simp; omega)
  rw [List.nil_append] at hor
  obtain ⟨b1, m1, k1, rfl, Hb1, x1, y1⟩ := hor.v.sh
  have HRUN := Lib.hid hrun
  have p0 : W4.cell? ⟨M, 3, none⟩ = some (.slice none 0 0) := cell_at (HM.out.step hBM) 3
  have pz : ∀ j, W4.frozen? ⟨M, j, none⟩ = false := fun j => free_at (HM.out.step hBM) j
  have pl : M < W4.heap.size := (HM.out.step hBM).lt
  have FO1 := Lib.hid (show M < _ from HM.out.lt)
  have FO1k := Lib.hid (show N + 1 < _ from HK1.out.lt)
  have O1 := Lib.hid hor
  go_upto_region 7 with (at_builtin; refine Lib.wpList_append_run _ rfl (.tmp 10) (.tmp 12) 22 22 rfl _ _ rfl rfl _ _ HRUN.out ?_)
  clear p0 pz pl
  clear qR0 qR1 qR2 qR3 qR4 qR5 qR6 qRz qRl qM0 qM1 qM2 qM3 qM4 qM5 qM6 qMz qMl
  replace HB := Lib.hid (HB.out.trans (hBM.mono HB.out.size))
  replace HT := Lib.hid (HT0.out.below HB.out)
  replace HL := Lib.hid (HL0.out.below HB.out)
  replace HS := Lib.hid (HS0.out.below HB.out)
  replace HD := Lib.hid (HD0.out.below HB.out)
  replace HR := Lib.hid (HR.out.step hBM)
  replace HK1 := Lib.hid (HK1.out.step hBM)
  replace HM := Lib.hid (HM.out.step hBM)
  clear HRUN hrun hor hBM
  obtain ⟨W5, hWS⟩ : ∃ WS, WS = W4.setCell ⟨M, 3, none⟩ (.slice b1 m1 k1) := ⟨_, rfl⟩
  rw [← hWS]
  have hfS : Fr [M] W4 W5 := by rw [hWS]; exact (Fr.refl _ _).setCell _ (.inl (by simp)) _
  have hkS : Blk W5 M #[.int .i64 s.term, .int .i64 s.stamp, .int .i64 s.next, .slice b1 m1 k1, .slice none 0 0, .slice none 0 0, .slice none 0 0] 27 := by rw [hWS]; exact HM.out.set 3 _
  replace HB := Lib.hid (HB.out.trans (hfS.below HB.out.size (by have := HLOM.out; simp; try omega)))
  replace HT := Lib.hid (HT0.out.below HB.out)
  replace HL := Lib.hid (HL0.out.below HB.out)
  replace HS := Lib.hid (HS0.out.below HB.out)
  replace HD := Lib.hid (HD0.out.below HB.out)
  replace HR := Lib.hid (show Blk W5 N #[.int .i64 s.term, .int .i64 s.stamp, .int .i64 s.next, .slice ta tn tc, .slice la ln lc, .slice sa sn sc, .slice da dn dc] 27 from (hfS.block _ HR.out.lt (by have hx0 := HXMHR.out; have hx1 := HXMHK1.out; simp; try omega)).trans HR.out)
  replace HK1 := Lib.hid (show Blk W5 (N + 1) #[.int .i64 0, .int .i64 0, .int .i64 0, .slice none 0 0, .slice none 0 0, .slice none 0 0, .slice none 0 0] 27 from (hfS.block _ HK1.out.lt (by have hx0 := HXMHR.out; have hx1 := HXMHK1.out; simp; try omega)).trans HK1.out)
  replace O1 := Lib.hid (O1.out.fr hfS (by have := FO1.out; omega))
  replace HM := Lib.hid (show Blk W5 M #[.int .i64 s.term, .int .i64 s.stamp, .int .i64 s.next, .slice b1 m1 k1, .slice none 0 0, .slice none 0 0, .slice none 0 0] 27 from hkS)
  clear hWS hfS hkS
  have qR0 : W5.cell? ⟨N, 0, none⟩ = some (.int .i64 s.term) := cell_at HR.out 0
  have qR1 : W5.cell? ⟨N, 1, none⟩ = some (.int .i64 s.stamp) := cell_at HR.out 1
  have qR2 : W5.cell? ⟨N, 2, none⟩ = some (.int .i64 s.next) := cell_at HR.out 2
  have qR3 : W5.cell? ⟨N, 3, none⟩ = some (.slice ta tn tc) := cell_at HR.out 3
  have qR4 : W5.cell? ⟨N, 4, none⟩ = some (.slice la ln lc) := cell_at HR.out 4
  have qR5 : W5.cell? ⟨N, 5, none⟩ = some (.slice sa sn sc) := cell_at HR.out 5
  have qR6 : W5.cell? ⟨N, 6, none⟩ = some (.slice da dn dc) := cell_at HR.out 6
  have qRz : ∀ j, W5.frozen? ⟨N, j, none⟩ = false := fun j => free_at HR.out j
  have qRl : N < W5.heap.size := HR.out.lt
  have qM0 : W5.cell? ⟨M, 0, none⟩ = some (.int .i64 s.term) := cell_at HM.out 0
  have qM1 : W5.cell? ⟨M, 1, none⟩ = some (.int .i64 s.stamp) := cell_at HM.out 1
  have qM2 : W5.cell? ⟨M, 2, none⟩ = some (.int .i64 s.next) := cell_at HM.out 2
  have qM3 : W5.cell? ⟨M, 3, none⟩ = some (.slice b1 m1 k1) := cell_at HM.out 3
  have qM4 : W5.cell? ⟨M, 4, none⟩ = some (.slice none 0 0) := cell_at HM.out 4
  have qM5 : W5.cell? ⟨M, 5, none⟩ = some (.slice none 0 0) := cell_at HM.out 5
  have qM6 : W5.cell? ⟨M, 6, none⟩ = some (.slice none 0 0) := cell_at HM.out 6
  have qMz : ∀ j, W5.frozen? ⟨M, j, none⟩ = false := fun j => free_at HM.out j
  have qMl : M < W5.heap.size := HM.out.lt
  have HL2 : Hid (w.heap.size ≤ W5.heap.size) := Lib.hid HB.out.size
  obtain ⟨v2, ob2, W6, hrun, hor, hBM⟩ := le_app (ty := 23) (leo_nil W5 _) HL.out (Nat.le_refl _) (by simp; omega)
  rw [List.nil_append] at hor
  obtain ⟨b2, m2, k2, rfl, Hb2, x2, y2⟩ := hor.v.sh
  have HRUN := Lib.hid hrun
  have p0 : W6.cell? ⟨M, 4, none⟩ = some (.slice none 0 0) := cell_at (HM.out.step hBM) 4
  have pz : ∀ j, W6.frozen? ⟨M, j, none⟩ = false := fun j => free_at (HM.out.step hBM) j
  have pl : M < W6.heap.size := (HM.out.step hBM).lt
  have FO2 := Lib.hid (show M < _ from HM.out.lt)
  have FO2k := Lib.hid (show N + 1 < _ from HK1.out.lt)
  have O2 := Lib.hid hor
  go_upto_region 8 with (at_builtin; refine Lib.wpList_append_run _ rfl (.tmp 16) (.tmp 18) 23 23 rfl _ _ rfl rfl _ _ HRUN.out ?_)
  clear p0 pz pl
  clear qR0 qR1 qR2 qR3 qR4 qR5 qR6 qRz qRl qM0 qM1 qM2 qM3 qM4 qM5 qM6 qMz qMl
  replace HB := Lib.hid (HB.out.trans (hBM.mono HB.out.size))
  replace HT := Lib.hid (HT0.out.below HB.out)
  replace HL := Lib.hid (HL0.out.below HB.out)
  replace HS := Lib.hid (HS0.out.below HB.out)
  replace HD := Lib.hid (HD0.out.below HB.out)
  replace HR := Lib.hid (HR.out.step hBM)
  replace HK1 := Lib.hid (HK1.out.step hBM)
  replace HM := Lib.hid (HM.out.step hBM)
  replace O1 := Lib.hid (O1.out.step hBM)
  clear HRUN hrun hor hBM
  obtain ⟨W7, hWS⟩ : ∃ WS, WS = W6.setCell ⟨M, 4, none⟩ (.slice b2 m2 k2) := ⟨_, rfl⟩
  rw [← hWS]
  have hfS : Fr [M] W6 W7 := by rw [hWS]; exact (Fr.refl _ _).setCell _ (.inl (by simp)) _
  have hkS : Blk W7 M #[.int .i64 s.term, .int .i64 s.stamp, .int .i64 s.next, .slice b1 m1 k1, .slice b2 m2 k2, .slice none 0 0, .slice none 0 0] 27 := by rw [hWS]; exact HM.out.set 4 _
  replace HB := Lib.hid (HB.out.trans (hfS.below HB.out.size (by have := HLOM.out; simp; try omega)))
  replace HT := Lib.hid (HT0.out.below HB.out)
  replace HL := Lib.hid (HL0.out.below HB.out)
  replace HS := Lib.hid (HS0.out.below HB.out)
  replace HD := Lib.hid (HD0.out.below HB.out)
  replace HR := Lib.hid (show Blk W7 N #[.int .i64 s.term, .int .i64 s.stamp, .int .i64 s.next, .slice ta tn tc, .slice la ln lc, .slice sa sn sc, .slice da dn dc] 27 from (hfS.block _ HR.out.lt (by have hx0 := HXMHR.out; have hx1 := HXMHK1.out; simp; try omega)).trans HR.out)
  replace HK1 := Lib.hid (show Blk W7 (N + 1) #[.int .i64 0, .int .i64 0, .int .i64 0, .slice none 0 0, .slice none 0 0, .slice none 0 0, .slice none 0 0] 27 from (hfS.block _ HK1.out.lt (by have hx0 := HXMHR.out; have hx1 := HXMHK1.out; simp; try omega)).trans HK1.out)
  replace O1 := Lib.hid (O1.out.fr hfS (by have := FO1.out; omega))
  replace O2 := Lib.hid (O2.out.fr hfS (by have := FO2.out; omega))
  replace HM := Lib.hid (show Blk W7 M #[.int .i64 s.term, .int .i64 s.stamp, .int .i64 s.next, .slice b1 m1 k1, .slice b2 m2 k2, .slice none 0 0, .slice none 0 0] 27 from hkS)
  clear hWS hfS hkS
  have qR0 : W7.cell? ⟨N, 0, none⟩ = some (.int .i64 s.term) := cell_at HR.out 0
  have qR1 : W7.cell? ⟨N, 1, none⟩ = some (.int .i64 s.stamp) := cell_at HR.out 1
  have qR2 : W7.cell? ⟨N, 2, none⟩ = some (.int .i64 s.next) := cell_at HR.out 2
  have qR3 : W7.cell? ⟨N, 3, none⟩ = some (.slice ta tn tc) := cell_at HR.out 3
  have qR4 : W7.cell? ⟨N, 4, none⟩ = some (.slice la ln lc) := cell_at HR.out 4
  have qR5 : W7.cell? ⟨N, 5, none⟩ = some (.slice sa sn sc) := cell_at HR.out 5
  have qR6 : W7.cell? ⟨N, 6, none⟩ = some (.slice da dn dc) := cell_at HR.out 6
  have qRz : ∀ j, W7.frozen? ⟨N, j, none⟩ = false := fun j => free_at HR.out j
  have qRl : N < W7.heap.size := HR.out.lt
  have qM0 : W7.cell? ⟨M, 0, none⟩ = some (.int .i64 s.term) := cell_at HM.out 0
  have qM1 : W7.cell? ⟨M, 1, none⟩ = some (.int .i64 s.stamp) := cell_at HM.out 1
  have qM2 : W7.cell? ⟨M, 2, none⟩ = some (.int .i64 s.next) := cell_at HM.out 2
  have qM3 : W7.cell? ⟨M, 3, none⟩ = some (.slice b1 m1 k1) := cell_at HM.out 3
  have qM4 : W7.cell? ⟨M, 4, none⟩ = some (.slice b2 m2 k2) := cell_at HM.out 4
  have qM5 : W7.cell? ⟨M, 5, none⟩ = some (.slice none 0 0) := cell_at HM.out 5
  have qM6 : W7.cell? ⟨M, 6, none⟩ = some (.slice none 0 0) := cell_at HM.out 6
  have qMz : ∀ j, W7.frozen? ⟨M, j, none⟩ = false := fun j => free_at HM.out j
  have qMl : M < W7.heap.size := HM.out.lt
  have HL3 : Hid (w.heap.size ≤ W7.heap.size) := Lib.hid HB.out.size
  obtain ⟨v3, ob3, W8, hrun, hor, hBM⟩ := se_app (ty := 24) (seo_nil W7 _) HS.out (Nat.le_refl _) (by simp; omega)
  rw [List.nil_append] at hor
  obtain ⟨b3, m3, k3, rfl, Hb3, x3, y3⟩ := hor.v.sh
  have HRUN := Lib.hid hrun
  have p0 : W8.cell? ⟨M, 5, none⟩ = some (.slice none 0 0) := cell_at (HM.out.step hBM) 5
  have pz : ∀ j, W8.frozen? ⟨M, j, none⟩ = false := fun j => free_at (HM.out.step hBM) j
  have pl : M < W8.heap.size := (HM.out.step hBM).lt
  have FO3 := Lib.hid (show M < _ from HM.out.lt)
  have FO3k := Lib.hid (show N + 1 < _ from HK1.out.lt)
  have O3 := Lib.hid hor
  go_upto_region 9 with (at_builtin; refine Lib.wpList_append_run _ rfl (.tmp 22) (.tmp 24) 24 24 rfl _ _ rfl rfl _ _ HRUN.out ?_)
  clear p0 pz pl
  clear qR0 qR1 qR2 qR3 qR4 qR5 qR6 qRz qRl qM0 qM1 qM2 qM3 qM4 qM5 qM6 qMz qMl
  replace HB := Lib.hid (HB.out.trans (hBM.mono HB.out.size))
  replace HT := Lib.hid (HT0.out.below HB.out)
  replace HL := Lib.hid (HL0.out.below HB.out)
  replace HS := Lib.hid (HS0.out.below HB.out)
  replace HD := Lib.hid (HD0.out.below HB.out)
  replace HR := Lib.hid (HR.out.step hBM)
  replace HK1 := Lib.hid (HK1.out.step hBM)
  replace HM := Lib.hid (HM.out.step hBM)
  replace O1 := Lib.hid (O1.out.step hBM)
  replace O2 := Lib.hid (O2.out.step hBM)
  clear HRUN hrun hor hBM
  obtain ⟨W9, hWS⟩ : ∃ WS, WS = W8.setCell ⟨M, 5, none⟩ (.slice b3 m3 k3) := ⟨_, rfl⟩
  rw [← hWS]
  have hfS : Fr [M] W8 W9 := by rw [hWS]; exact (Fr.refl _ _).setCell _ (.inl (by simp)) _
  have hkS : Blk W9 M #[.int .i64 s.term, .int .i64 s.stamp, .int .i64 s.next, .slice b1 m1 k1, .slice b2 m2 k2, .slice b3 m3 k3, .slice none 0 0] 27 := by rw [hWS]; exact HM.out.set 5 _
  replace HB := Lib.hid (HB.out.trans (hfS.below HB.out.size (by have := HLOM.out; simp; try omega)))
  replace HT := Lib.hid (HT0.out.below HB.out)
  replace HL := Lib.hid (HL0.out.below HB.out)
  replace HS := Lib.hid (HS0.out.below HB.out)
  replace HD := Lib.hid (HD0.out.below HB.out)
  replace HR := Lib.hid (show Blk W9 N #[.int .i64 s.term, .int .i64 s.stamp, .int .i64 s.next, .slice ta tn tc, .slice la ln lc, .slice sa sn sc, .slice da dn dc] 27 from (hfS.block _ HR.out.lt (by have hx0 := HXMHR.out; have hx1 := HXMHK1.out; simp; try omega)).trans HR.out)
  replace HK1 := Lib.hid (show Blk W9 (N + 1) #[.int .i64 0, .int .i64 0, .int .i64 0, .slice none 0 0, .slice none 0 0, .slice none 0 0, .slice none 0 0] 27 from (hfS.block _ HK1.out.lt (by have hx0 := HXMHR.out; have hx1 := HXMHK1.out; simp; try omega)).trans HK1.out)
  replace O1 := Lib.hid (O1.out.fr hfS (by have := FO1.out; omega))
  replace O2 := Lib.hid (O2.out.fr hfS (by have := FO2.out; omega))
  replace O3 := Lib.hid (O3.out.fr hfS (by have := FO3.out; omega))
  replace HM := Lib.hid (show Blk W9 M #[.int .i64 s.term, .int .i64 s.stamp, .int .i64 s.next, .slice b1 m1 k1, .slice b2 m2 k2, .slice b3 m3 k3, .slice none 0 0] 27 from hkS)
  clear hWS hfS hkS
  have qR0 : W9.cell? ⟨N, 0, none⟩ = some (.int .i64 s.term) := cell_at HR.out 0
  have qR1 : W9.cell? ⟨N, 1, none⟩ = some (.int .i64 s.stamp) := cell_at HR.out 1
  have qR2 : W9.cell? ⟨N, 2, none⟩ = some (.int .i64 s.next) := cell_at HR.out 2
  have qR3 : W9.cell? ⟨N, 3, none⟩ = some (.slice ta tn tc) := cell_at HR.out 3
  have qR4 : W9.cell? ⟨N, 4, none⟩ = some (.slice la ln lc) := cell_at HR.out 4
  have qR5 : W9.cell? ⟨N, 5, none⟩ = some (.slice sa sn sc) := cell_at HR.out 5
  have qR6 : W9.cell? ⟨N, 6, none⟩ = some (.slice da dn dc) := cell_at HR.out 6
  have qRz : ∀ j, W9.frozen? ⟨N, j, none⟩ = false := fun j => free_at HR.out j
  have qRl : N < W9.heap.size := HR.out.lt
  have qM0 : W9.cell? ⟨M, 0, none⟩ = some (.int .i64 s.term) := cell_at HM.out 0
  have qM1 : W9.cell? ⟨M, 1, none⟩ = some (.int .i64 s.stamp) := cell_at HM.out 1
  have qM2 : W9.cell? ⟨M, 2, none⟩ = some (.int .i64 s.next) := cell_at HM.out 2
  have qM3 : W9.cell? ⟨M, 3, none⟩ = some (.slice b1 m1 k1) := cell_at HM.out 3
  have qM4 : W9.cell? ⟨M, 4, none⟩ = some (.slice b2 m2 k2) := cell_at HM.out 4
  have qM5 : W9.cell? ⟨M, 5, none⟩ = some (.slice b3 m3 k3) := cell_at HM.out 5
  have qM6 : W9.cell? ⟨M, 6, none⟩ = some (.slice none 0 0) := cell_at HM.out 6
  have qMz : ∀ j, W9.frozen? ⟨M, j, none⟩ = false := fun j => free_at HM.out j
  have qMl : M < W9.heap.size := HM.out.lt
  have HL4 : Hid (w.heap.size ≤ W9.heap.size) := Lib.hid HB.out.size
  obtain ⟨v4, ob4, W10, hrun, hor, hBM⟩ := dk_app (ty := 25) (dko_nil W9 _) HD.out (Nat.le_refl _) (by simp; omega)
  rw [List.nil_append] at hor
  obtain ⟨b4, m4, k4, rfl, Hb4, x4, y4⟩ := hor.v.sh
  have HRUN := Lib.hid hrun
  have p0 : W10.cell? ⟨M, 6, none⟩ = some (.slice none 0 0) := cell_at (HM.out.step hBM) 6
  have pz : ∀ j, W10.frozen? ⟨M, j, none⟩ = false := fun j => free_at (HM.out.step hBM) j
  have pl : M < W10.heap.size := (HM.out.step hBM).lt
  have FO4 := Lib.hid (show M < _ from HM.out.lt)
  have FO4k := Lib.hid (show N + 1 < _ from HK1.out.lt)
  have O4 := Lib.hid hor
  go_upto_region 10 with (at_builtin; refine Lib.wpList_append_run _ rfl (.tmp 28) (.tmp 30) 25 25 rfl _ _ rfl rfl _ _ HRUN.out ?_)
  clear p0 pz pl
  clear qR0 qR1 qR2 qR3 qR4 qR5 qR6 qRz qRl qM0 qM1 qM2 qM3 qM4 qM5 qM6 qMz qMl
  replace HB := Lib.hid (HB.out.trans (hBM.mono HB.out.size))
  replace HT := Lib.hid (HT0.out.below HB.out)
  replace HL := Lib.hid (HL0.out.below HB.out)
  replace HS := Lib.hid (HS0.out.below HB.out)
  replace HD := Lib.hid (HD0.out.below HB.out)
  replace HR := Lib.hid (HR.out.step hBM)
  replace HK1 := Lib.hid (HK1.out.step hBM)
  replace HM := Lib.hid (HM.out.step hBM)
  replace O1 := Lib.hid (O1.out.step hBM)
  replace O2 := Lib.hid (O2.out.step hBM)
  replace O3 := Lib.hid (O3.out.step hBM)
  clear HRUN hrun hor hBM
  obtain ⟨W11, hWS⟩ : ∃ WS, WS = W10.setCell ⟨M, 6, none⟩ (.slice b4 m4 k4) := ⟨_, rfl⟩
  rw [← hWS]
  have hfS : Fr [M] W10 W11 := by rw [hWS]; exact (Fr.refl _ _).setCell _ (.inl (by simp)) _
  have hkS : Blk W11 M #[.int .i64 s.term, .int .i64 s.stamp, .int .i64 s.next, .slice b1 m1 k1, .slice b2 m2 k2, .slice b3 m3 k3, .slice b4 m4 k4] 27 := by rw [hWS]; exact HM.out.set 6 _
  replace HB := Lib.hid (HB.out.trans (hfS.below HB.out.size (by have := HLOM.out; simp; try omega)))
  replace HT := Lib.hid (HT0.out.below HB.out)
  replace HL := Lib.hid (HL0.out.below HB.out)
  replace HS := Lib.hid (HS0.out.below HB.out)
  replace HD := Lib.hid (HD0.out.below HB.out)
  replace HR := Lib.hid (show Blk W11 N #[.int .i64 s.term, .int .i64 s.stamp, .int .i64 s.next, .slice ta tn tc, .slice la ln lc, .slice sa sn sc, .slice da dn dc] 27 from (hfS.block _ HR.out.lt (by have hx0 := HXMHR.out; have hx1 := HXMHK1.out; simp; try omega)).trans HR.out)
  replace HK1 := Lib.hid (show Blk W11 (N + 1) #[.int .i64 0, .int .i64 0, .int .i64 0, .slice none 0 0, .slice none 0 0, .slice none 0 0, .slice none 0 0] 27 from (hfS.block _ HK1.out.lt (by have hx0 := HXMHR.out; have hx1 := HXMHK1.out; simp; try omega)).trans HK1.out)
  replace O1 := Lib.hid (O1.out.fr hfS (by have := FO1.out; omega))
  replace O2 := Lib.hid (O2.out.fr hfS (by have := FO2.out; omega))
  replace O3 := Lib.hid (O3.out.fr hfS (by have := FO3.out; omega))
  replace O4 := Lib.hid (O4.out.fr hfS (by have := FO4.out; omega))
  replace HM := Lib.hid (show Blk W11 M #[.int .i64 s.term, .int .i64 s.stamp, .int .i64 s.next, .slice b1 m1 k1, .slice b2 m2 k2, .slice b3 m3 k3, .slice b4 m4 k4] 27 from hkS)
  clear hWS hfS hkS
  have qM0 : W11.cell? ⟨M, 0, none⟩ = some (.int .i64 s.term) := cell_at HM.out 0
  have qM1 : W11.cell? ⟨M, 1, none⟩ = some (.int .i64 s.stamp) := cell_at HM.out 1
  have qM2 : W11.cell? ⟨M, 2, none⟩ = some (.int .i64 s.next) := cell_at HM.out 2
  have qM3 : W11.cell? ⟨M, 3, none⟩ = some (.slice b1 m1 k1) := cell_at HM.out 3
  have qM4 : W11.cell? ⟨M, 4, none⟩ = some (.slice b2 m2 k2) := cell_at HM.out 4
  have qM5 : W11.cell? ⟨M, 5, none⟩ = some (.slice b3 m3 k3) := cell_at HM.out 5
  have qM6 : W11.cell? ⟨M, 6, none⟩ = some (.slice b4 m4 k4) := cell_at HM.out 6
  have qMz : ∀ j, W11.frozen? ⟨M, j, none⟩ = false := fun j => free_at HM.out j
  have qMl : M < W11.heap.size := HM.out.lt
  have qK10 : W11.cell? ⟨(N + 1), 0, none⟩ = some (.int .i64 0) := cell_at HK1.out 0
  have qK11 : W11.cell? ⟨(N + 1), 1, none⟩ = some (.int .i64 0) := cell_at HK1.out 1
  have qK12 : W11.cell? ⟨(N + 1), 2, none⟩ = some (.int .i64 0) := cell_at HK1.out 2
  have qK13 : W11.cell? ⟨(N + 1), 3, none⟩ = some (.slice none 0 0) := cell_at HK1.out 3
  have qK14 : W11.cell? ⟨(N + 1), 4, none⟩ = some (.slice none 0 0) := cell_at HK1.out 4
  have qK15 : W11.cell? ⟨(N + 1), 5, none⟩ = some (.slice none 0 0) := cell_at HK1.out 5
  have qK16 : W11.cell? ⟨(N + 1), 6, none⟩ = some (.slice none 0 0) := cell_at HK1.out 6
  have qK1z : ∀ j, W11.frozen? ⟨(N + 1), j, none⟩ = false := fun j => free_at HK1.out j
  have qK1l : (N + 1) < W11.heap.size := HK1.out.lt
  go_wp2_with fail
  replace FO1 := FO1k
  replace FO2 := FO2k
  replace FO3 := FO3k
  replace FO4 := FO4k
  clear qM0 qM1 qM2 qM3 qM4 qM5 qM6 qMz qMl qK10 qK11 qK12 qK13 qK14 qK15 qK16 qK1z qK1l
  obtain ⟨LS, hLS⟩ : ∃ L : List Value, L = [.int .i64 s.term, .int .i64 s.stamp, .int .i64 s.next, .slice b1 m1 k1, .slice b2 m2 k2, .slice b3 m3 k3, .slice b4 m4 k4] := ⟨_, rfl⟩
  obtain ⟨W12, hWS⟩ : ∃ WS, WS = W11.setCells (N + 1) 0 LS := ⟨_, rfl⟩
  have hch := hWS
  rw [hLS] at hch
  simp only [World.setCells, Nat.zero_add, Nat.reduceAdd] at hch
  rw [← hch]
  clear hch
  have hkS := stC_blk HK1.out LS (by rw [hLS]; rfl)
  have hfS := stC_fr (N + 1) LS 0 W11
  rw [← hWS] at hkS hfS
  rw [hLS] at hkS
  replace HB := Lib.hid (HB.out.trans (hfS.below HB.out.size (by have := HLON.out; simp; try omega)))
  replace HT := Lib.hid (HT0.out.below HB.out)
  replace HL := Lib.hid (HL0.out.below HB.out)
  replace HS := Lib.hid (HS0.out.below HB.out)
  replace HD := Lib.hid (HD0.out.below HB.out)
  replace HR := Lib.hid (show Blk W12 N #[.int .i64 s.term, .int .i64 s.stamp, .int .i64 s.next, .slice ta tn tc, .slice la ln lc, .slice sa sn sc, .slice da dn dc] 27 from (hfS.block _ HR.out.lt (by have hx0 := HXMHR.out; have hx1 := HXMHK1.out; simp; try omega)).trans HR.out)
  replace HM := Lib.hid (show Blk W12 M #[.int .i64 s.term, .int .i64 s.stamp, .int .i64 s.next, .slice b1 m1 k1, .slice b2 m2 k2, .slice b3 m3 k3, .slice b4 m4 k4] 27 from (hfS.block _ HM.out.lt (by have hx0 := HXMHR.out; have hx1 := HXMHK1.out; simp; try omega)).trans HM.out)
  replace O1 := Lib.hid (O1.out.fr hfS (by have := FO1.out; omega))
  replace O2 := Lib.hid (O2.out.fr hfS (by have := FO2.out; omega))
  replace O3 := Lib.hid (O3.out.fr hfS (by have := FO3.out; omega))
  replace O4 := Lib.hid (O4.out.fr hfS (by have := FO4.out; omega))
  replace HK1 := Lib.hid (show Blk W12 (N + 1) #[.int .i64 s.term, .int .i64 s.stamp, .int .i64 s.next, .slice b1 m1 k1, .slice b2 m2 k2, .slice b3 m3 k3, .slice b4 m4 k4] 27 from hkS)
  clear hWS hLS hkS hfS
  have qK10 : W12.cell? ⟨(N + 1), 0, none⟩ = some (.int .i64 s.term) := cell_at HK1.out 0
  have qK11 : W12.cell? ⟨(N + 1), 1, none⟩ = some (.int .i64 s.stamp) := cell_at HK1.out 1
  have qK12 : W12.cell? ⟨(N + 1), 2, none⟩ = some (.int .i64 s.next) := cell_at HK1.out 2
  have qK13 : W12.cell? ⟨(N + 1), 3, none⟩ = some (.slice b1 m1 k1) := cell_at HK1.out 3
  have qK14 : W12.cell? ⟨(N + 1), 4, none⟩ = some (.slice b2 m2 k2) := cell_at HK1.out 4
  have qK15 : W12.cell? ⟨(N + 1), 5, none⟩ = some (.slice b3 m3 k3) := cell_at HK1.out 5
  have qK16 : W12.cell? ⟨(N + 1), 6, none⟩ = some (.slice b4 m4 k4) := cell_at HK1.out 6
  have qK1z : ∀ j, W12.frozen? ⟨(N + 1), j, none⟩ = false := fun j => free_at HK1.out j
  have qK1l : (N + 1) < W12.heap.size := HK1.out.lt
  exact bodyPost_ret (v := .agg #[.int .i64 s.term, .int .i64 s.stamp, .int .i64 s.next, .slice b1 m1 k1, .slice b2 m2 k2, .slice b3 m3 k3, .slice b4 m4 k4]) (by simp [results, Try.results40, go_sem, qK10, qK11, qK12, qK13, qK14, qK15, qK16]) rfl ⟨_, rfl, ⟨_, _, _, _, _, _, _, _, rfl, O1.out.le HL1.out, O2.out.le HL2.out, O3.out.le HL3.out, O4.out.le HL4.out⟩, HB.out⟩
end Go.Proofs.Ytfgnjpdlchimpaa
namespace Go.Proofs.Ytfgnjpdlchimpaa
open Go.RowKit
set_option linter.unusedSimpArgs false
set_option linter.unusedVariables false

set_option maxRecDepth 100000 in
set_option maxHeartbeats 8000000 in
theorem rsweep_any (v : Value) (L : List TnE) (oa : Option Addr) (on oc ob oo : Nat) (T : Nat → Int) (w : World) (h : TV w v L) (hI : IntsIn w oa on oc ob oo T) (hn5 : L.length ≤ 200) : Calls Try.prog 78 #[v, .slice oa on oc] w fun e w' => ∃ v', e = .returned v' ∧ TV w' v' (swL on T L) ∧ Below w.heap.size w w' := by
  have HVW := Lib.hid h
  have HOK := Lib.hid h.ok
  have HII := Lib.hid hI
  have om1 := hI.le
  have om2 := hI.max
  unfold maxLen at om2
  obtain ⟨C, hC⟩ : ∃ C, C = chk L := ⟨_, rfl⟩
  have HC := Lib.hid hC
  obtain ⟨Y, hY⟩ : ∃ Y, Y = swL on T L := ⟨_, rfl⟩
  rw [← hY]
  have HY := Lib.hid hY
  have HCK := Lib.hid (rcheck_any v L w h)
  rw [← hC] at HCK
  clear hC hY
  obtain ⟨i0, hi, hz0, hz1, hz2⟩ := info_parts tnZero
  have HI := Lib.hid hi
  have HZ0 := Lib.hid hz0
  have HZ1 := Lib.hid hz1
  have HZ2 := Lib.hid hz2
  clear hi hz0 hz1 hz2 hI
  cases C
  · have hYx : Y = L := by rw [HY.out]; unfold swL; rw [← HC.out]; rfl
    have HYX := Lib.hid hYx
    clear hYx h
    go_enter Try.func78, Try.ntmps78
    go_wp2_with fail
    go_at_call 30
    refine Calls.mono HCK.out ?_
    rintro e W2 ⟨rfl, hB⟩
    have HB2 := Lib.hid hB
    clear hB
    go_wp2_with fail
    go_ret
    exact ⟨_, rfl, by rw [HYX.out]; exact HVW.out.below HB2.out, HB2.out⟩
  · have hYx : Y = L.filter fun x => !swB on T x := by rw [HY.out]; unfold swL; rw [← HC.out]; rfl
    have HYX := Lib.hid hYx
    clear hYx
    obtain ⟨a, b, o, cap, rfl, h⟩ := h
    have m1 := h.le
    have m2 := h.max
    unfold maxLen at m2
    have H1 := Lib.hid h
    clear h
    obtain ⟨n, hn⟩ : ∃ n, n = L.length := ⟨_, rfl⟩
    have HN := Lib.hid hn
    rw [← hn] at m1 H1 hn5 HCK HVW
    rw [← hn]
    clear hn
    go_enter Try.func78, Try.ntmps78
    go_wp2_with fail
    go_at_call 30
    refine Calls.mono HCK.out ?_
    rintro e W2 ⟨rfl, hB⟩
    have HB2 := Lib.hid hB
    clear hB HCK
    go_wp2_with fail
    go_loopw [5, 6] (fun u i wr => ∃ (k : Nat) (ob : Option Nat) (A : List TnE), k ≤ n ∧ i = .int .i64 k ∧ Row wr u ob 54 5 A.length (listL A) ∧ A = (L.take k).filter (fun y => !swB on T y) ∧ (∀ g, ob = some g → w.heap.size ≤ g) ∧ Below w.heap.size w wr) (fun _ i _ => n - (intOf i).toNat)
    case atStart => exact ⟨0, none, [], Nat.zero_le _, rfl, Row.nil _ _ _, rfl, (fun g e => by cases e), HB2.out⟩
    case round =>
      obtain ⟨k, ob9, A, hk, rfl, hrow, hA, hg, hB⟩ := hrel
      have hAl : A.length ≤ k := by rw [hA]; exact Nat.le_trans (List.length_filter_le _ _) (by simp; omega)
      have HROW := Lib.hid hrow
      have HG := Lib.hid hg
      have HB := Lib.hid hB
      have HA := Lib.hid hA
      obtain ⟨va, vc, rfl, v1, v2, _⟩ := hrow.shape
      unfold maxLen at v2
      clear hrow hg hB hA
      by_cases hlt : k < n
      · have hs1 := H1.out.below HB.out
        obtain ⟨e0, e1⟩ := hs1.at_ (by omega)
        subst e0
        obtain ⟨c0, c1, c2, c3, c4⟩ := hs1.cell k hlt
        have hgm : gt L k ∈ L := List.mem_of_getElem? (gt_lt (by rw [← HN.out]; exact hlt))
        have hid1 := chk_id HC.out.symm hgm
        have hid2 := (HOK.out _ hgm).1.2
        have hfs : (L.take (k + 1)).filter (fun y => !swB on T y) = A ++ (if swB on T (gt L k) then [] else [gt L k]) := by
          rw [HA.out, List.take_add_one, gt_lt (by rw [← HN.out]; exact hlt), List.filter_append]
          cases hsw : swB on T (gt L k) <;> simp [hsw]
        obtain ⟨y, hy⟩ : ∃ y, y = gt L k := ⟨_, rfl⟩
        rw [← hy] at c0 c1 c2 c3 c4 hfs hid1 hid2
        have HFS := Lib.hid hfs
        clear hs1 hy hfs hgm
        obtain ⟨q, hq⟩ : ∃ q : Nat, y.id = (q : Int) + 1 := ⟨(y.id - 1).toNat, by omega⟩
        have HO : Hid (outN on T y = if q < on then T q else 0) := Lib.hid (by unfold outN; rw [hq]; simp only [Int.add_sub_cancel, Int.toNat_natCast]; by_cases hh : q < on <;> simp [hh])
        have hw : IntKind.i64.wrap (q : Int) = (q : Int) := IntWalk.i64_in _ (by omega)
        obtain ⟨yi, yr, yb, yk, yg⟩ := y
        simp only at hq c0 c1 c2 c3 c4
        subst hq
        by_cases hqo : q < on
        · obtain ⟨oe0, oe1⟩ := (HII.out.below HB.out).at_ (by omega)
          subst oe0
          have o0 := (HII.out.below HB.out).cell q hqo
          obtain ⟨t, ht⟩ : ∃ t, t = T q := ⟨_, rfl⟩
          rw [← ht] at o0
          have HT := Lib.hid (HO.out.trans (by rw [if_pos hqo, ← ht]) : outN on T ⟨(q : Int) + 1, yr, yb, yk, yg⟩ = t)
          have d1 : ((q : Int) < on) = True := eq_true (by omega)
          have d2 : (q < on) = True := eq_true hqo
          clear ht HO
          have hcs : (yg = true ∧ t ≤ 0) ∨ (yg = false) ∨ (yg = true ∧ 0 < t) := by cases yg <;> simp <;> omega
          rcases hcs with ⟨rfl, g1⟩ | rfl | ⟨rfl, g1⟩
          · have HF2 : Hid ((L.take (k + 1)).filter (fun y => !swB on T y) = A) := Lib.hid (by rw [HFS.out, show swB on T ⟨(q : Int) + 1, yr, yb, yk, true⟩ = true by unfold swB; rw [HT.out]; simp [g1]]; simp)
            have t1 : decide (0 < t) = false := decide_eq_false (by omega)
            go_wp2_with fail
            go_roundw
            case rel => exact ⟨k + 1, ob9, A, by omega, by go_num, HROW.out, HF2.out.symm, HG.out, HB.out⟩
            case measure => first | (simp [intOf]; done) | (simp [intOf]; omega)
          · have HF2 : Hid ((L.take (k + 1)).filter (fun y => !swB on T y) = A ++ [⟨(q : Int) + 1, yr, yb, yk, false⟩]) := Lib.hid (by rw [HFS.out, show swB on T ⟨(q : Int) + 1, yr, yb, yk, false⟩ = false by unfold swB; simp]; simp)
            go_upto_region 11 with fail
            obtain ⟨y, hy⟩ : ∃ y : TnE, y = ⟨(q : Int) + 1, yr, yb, yk, false⟩ := ⟨_, rfl⟩
            have b0 : wr.cell? ⟨b, o + k * 5, none⟩ = some (.int .i64 y.id) := by rw [hy]; exact c0
            have b1 : wr.cell? ⟨b, o + k * 5 + 1, none⟩ = some (.int .i64 y.rate) := by rw [hy]; exact c1
            have b2 : wr.cell? ⟨b, o + k * 5 + 2, none⟩ = some (.int .i64 y.burst) := by rw [hy]; exact c2
            have b3 : wr.cell? ⟨b, o + k * 5 + 3, none⟩ = some (.int .i64 y.bkt) := by rw [hy]; exact c3
            have b4 : wr.cell? ⟨b, o + k * 5 + 4, none⟩ = some (.bool y.gone) := by rw [hy]; exact c4
            rw [← hy] at HF2
            clear c0 c1 c2 c3 c4 hy
            go_wp2_with (at_builtin; refine wpList_append_row _ rfl (.tmp 46) (.tmp 51) 22 rfl 54 i0 _ 5 40 Try.underlying22 HI.out HZ0.out HZ1.out HZ2.out rfl (by decide) _ ob9 A.length (listL A) rfl (HROW.out.alloc _) ⟨wr.heap.size, 0, none⟩ 1 1 (y).cells rfl (by decide) rfl ?c1 ?c2 ?c3 ?c4 ?_)
            case c1 => first | exact one_tn wr y _ | (intro j u hj; simpa [TnE.cells] using hj)
            case c2 => exact tnc_one y
            case c3 => (unfold maxLen; omega)
            case c4 => omega
            intro v3q ob3q W3q hrow3 hg3 hob3
            have hG := grow2 (A := A) (y := y) HB.out HG.out (by first | exact hrow3 | simpa using hrow3) _ hg3 (by first | exact hob3 | (rcases hob3 with h | h; exact .inl (by rw [h]); exact .inr h))
            obtain ⟨va3q, vc3q, hv3, v13q, _, h39⟩ := hG.1.shape
            have h49 : va3q = some ⟨ob3q, 0, none⟩ := h39
            subst hv3 h49
            have HR3q := Lib.hid hG.1
            have HG3q := Lib.hid hG.2.1
            have HB3q := Lib.hid hG.2.2
            clear hG hrow3 hg3 hob3 h39
            go_wp2_with fail
            go_roundw
            case rel => exact ⟨k + 1, some ob3q, A ++ [y], by omega, by go_num, HR3q.out, HF2.out.symm, HG3q.out, HB3q.out⟩
            case measure => first | (simp [intOf]; done) | (simp [intOf]; omega)
          · have HF2 : Hid ((L.take (k + 1)).filter (fun y => !swB on T y) = A ++ [⟨(q : Int) + 1, yr, yb, yk, true⟩]) := Lib.hid (by rw [HFS.out, show swB on T ⟨(q : Int) + 1, yr, yb, yk, true⟩ = false by unfold swB; rw [HT.out]; simp; omega]; simp)
            have t1 : decide (0 < t) = true := decide_eq_true g1
            go_upto_region 11 with fail
            obtain ⟨y, hy⟩ : ∃ y : TnE, y = ⟨(q : Int) + 1, yr, yb, yk, true⟩ := ⟨_, rfl⟩
            have b0 : wr.cell? ⟨b, o + k * 5, none⟩ = some (.int .i64 y.id) := by rw [hy]; exact c0
            have b1 : wr.cell? ⟨b, o + k * 5 + 1, none⟩ = some (.int .i64 y.rate) := by rw [hy]; exact c1
            have b2 : wr.cell? ⟨b, o + k * 5 + 2, none⟩ = some (.int .i64 y.burst) := by rw [hy]; exact c2
            have b3 : wr.cell? ⟨b, o + k * 5 + 3, none⟩ = some (.int .i64 y.bkt) := by rw [hy]; exact c3
            have b4 : wr.cell? ⟨b, o + k * 5 + 4, none⟩ = some (.bool y.gone) := by rw [hy]; exact c4
            rw [← hy] at HF2
            clear c0 c1 c2 c3 c4 hy
            go_wp2_with (at_builtin; refine wpList_append_row _ rfl (.tmp 46) (.tmp 51) 22 rfl 54 i0 _ 5 40 Try.underlying22 HI.out HZ0.out HZ1.out HZ2.out rfl (by decide) _ ob9 A.length (listL A) rfl (HROW.out.alloc _) ⟨wr.heap.size, 0, none⟩ 1 1 (y).cells rfl (by decide) rfl ?c1 ?c2 ?c3 ?c4 ?_)
            case c1 => first | exact one_tn wr y _ | (intro j u hj; simpa [TnE.cells] using hj)
            case c2 => exact tnc_one y
            case c3 => (unfold maxLen; omega)
            case c4 => omega
            intro v3q ob3q W3q hrow3 hg3 hob3
            have hG := grow2 (A := A) (y := y) HB.out HG.out (by first | exact hrow3 | simpa using hrow3) _ hg3 (by first | exact hob3 | (rcases hob3 with h | h; exact .inl (by rw [h]); exact .inr h))
            obtain ⟨va3q, vc3q, hv3, v13q, _, h39⟩ := hG.1.shape
            have h49 : va3q = some ⟨ob3q, 0, none⟩ := h39
            subst hv3 h49
            have HR3q := Lib.hid hG.1
            have HG3q := Lib.hid hG.2.1
            have HB3q := Lib.hid hG.2.2
            clear hG hrow3 hg3 hob3 h39
            go_wp2_with fail
            go_roundw
            case rel => exact ⟨k + 1, some ob3q, A ++ [y], by omega, by go_num, HR3q.out, HF2.out.symm, HG3q.out, HB3q.out⟩
            case measure => first | (simp [intOf]; done) | (simp [intOf]; omega)
        · have HT := Lib.hid (HO.out.trans (by rw [if_neg hqo]) : outN on T ⟨(q : Int) + 1, yr, yb, yk, yg⟩ = 0)
          obtain ⟨t, ht⟩ : ∃ t, t = (0 : Int) := ⟨_, rfl⟩
          rw [← ht] at HT
          have HT0 := Lib.hid ht
          have d1 : ((q : Int) < on) = False := eq_false (by omega)
          have d2 : (q < on) = False := eq_false hqo
          clear HO
          have hcs : (yg = true ∧ t ≤ 0) ∨ (yg = false) ∨ (yg = true ∧ 0 < t) := by cases yg <;> simp <;> omega
          rcases hcs with ⟨rfl, g1⟩ | rfl | ⟨rfl, g1⟩
          · have HF2 : Hid ((L.take (k + 1)).filter (fun y => !swB on T y) = A) := Lib.hid (by rw [HFS.out, show swB on T ⟨(q : Int) + 1, yr, yb, yk, true⟩ = true by unfold swB; rw [HT.out]; simp [g1]]; simp)
            have t1 : decide (0 < t) = false := decide_eq_false (by omega)
            subst ht
            go_wp2_with fail
            go_roundw
            case rel => exact ⟨k + 1, ob9, A, by omega, by go_num, HROW.out, HF2.out.symm, HG.out, HB.out⟩
            case measure => first | (simp [intOf]; done) | (simp [intOf]; omega)
          · have HF2 : Hid ((L.take (k + 1)).filter (fun y => !swB on T y) = A ++ [⟨(q : Int) + 1, yr, yb, yk, false⟩]) := Lib.hid (by rw [HFS.out, show swB on T ⟨(q : Int) + 1, yr, yb, yk, false⟩ = false by unfold swB; simp]; simp)
            subst ht
            go_upto_region 11 with fail
            obtain ⟨y, hy⟩ : ∃ y : TnE, y = ⟨(q : Int) + 1, yr, yb, yk, false⟩ := ⟨_, rfl⟩
            have b0 : wr.cell? ⟨b, o + k * 5, none⟩ = some (.int .i64 y.id) := by rw [hy]; exact c0
            have b1 : wr.cell? ⟨b, o + k * 5 + 1, none⟩ = some (.int .i64 y.rate) := by rw [hy]; exact c1
            have b2 : wr.cell? ⟨b, o + k * 5 + 2, none⟩ = some (.int .i64 y.burst) := by rw [hy]; exact c2
            have b3 : wr.cell? ⟨b, o + k * 5 + 3, none⟩ = some (.int .i64 y.bkt) := by rw [hy]; exact c3
            have b4 : wr.cell? ⟨b, o + k * 5 + 4, none⟩ = some (.bool y.gone) := by rw [hy]; exact c4
            rw [← hy] at HF2
            clear c0 c1 c2 c3 c4 hy
            go_wp2_with (at_builtin; refine wpList_append_row _ rfl (.tmp 46) (.tmp 51) 22 rfl 54 i0 _ 5 40 Try.underlying22 HI.out HZ0.out HZ1.out HZ2.out rfl (by decide) _ ob9 A.length (listL A) rfl (HROW.out.alloc _) ⟨wr.heap.size, 0, none⟩ 1 1 (y).cells rfl (by decide) rfl ?c1 ?c2 ?c3 ?c4 ?_)
            case c1 => first | exact one_tn wr y _ | (intro j u hj; simpa [TnE.cells] using hj)
            case c2 => exact tnc_one y
            case c3 => (unfold maxLen; omega)
            case c4 => omega
            intro v3q ob3q W3q hrow3 hg3 hob3
            have hG := grow2 (A := A) (y := y) HB.out HG.out (by first | exact hrow3 | simpa using hrow3) _ hg3 (by first | exact hob3 | (rcases hob3 with h | h; exact .inl (by rw [h]); exact .inr h))
            obtain ⟨va3q, vc3q, hv3, v13q, _, h39⟩ := hG.1.shape
            have h49 : va3q = some ⟨ob3q, 0, none⟩ := h39
            subst hv3 h49
            have HR3q := Lib.hid hG.1
            have HG3q := Lib.hid hG.2.1
            have HB3q := Lib.hid hG.2.2
            clear hG hrow3 hg3 hob3 h39
            go_wp2_with fail
            go_roundw
            case rel => exact ⟨k + 1, some ob3q, A ++ [y], by omega, by go_num, HR3q.out, HF2.out.symm, HG3q.out, HB3q.out⟩
            case measure => first | (simp [intOf]; done) | (simp [intOf]; omega)
          · exact absurd ht (by omega)
      · obtain rfl : k = n := by omega
        have hAY : A = Y := by rw [HYX.out, HA.out, HN.out, List.take_length]
        have HAY := Lib.hid hAY
        have HOKY : Hid (okL Y) := Lib.hid (by rw [HYX.out]; exact fun x hx => HOK.out x (List.mem_filter.1 hx).1)
        clear hAY
        go_wp2_with fail
        go_ret
        exact ⟨_, rfl, (by rw [← HAY.out]; exact (tvo_row (m := w.heap.size) HROW.out (by rw [HAY.out]; exact HOKY.out) HG.out).tv), HB.out⟩
end Go.Proofs.Ytfgnjpdlchimpaa
namespace Go.Proofs.Ytfgnjpdlchimpaa
open Go.RowKit
set_option linter.unusedSimpArgs false
set_option linter.unusedVariables false

set_option maxRecDepth 100000 in
set_option maxHeartbeats 8000000 in
theorem rswept_any (vt vl vs vd : Value) (s : StE) (w : World) (ht : TV w vt s.ts) (hl : LeV w vl s.ls) (hs : SeV w vs s.ss) (hd : DkV w vd s.ds) (hf : fewS s) (hz : sizeB s.ls) :
    Calls Try.prog 42 #[.agg #[.int .i64 s.term, .int .i64 s.stamp, .int .i64 s.next, vt, vl, vs, vd]] w fun e w' => ∃ vt', e = .returned (.agg #[.int .i64 s.term, .int .i64 s.stamp, .int .i64 s.next, vt', vl, vs, vd]) ∧ TV w' vt' (sweptS s).ts ∧ Below w.heap.size w w' := by
  have HFEW := Lib.hid hf
  obtain ⟨f1, f2, f3, f4⟩ := hf
  obtain ⟨ta, tn, tc, rfl, Htn, tn1, tn2⟩ := ht.sh
  obtain ⟨la, ln, lc, rfl, Hln, ln1, ln2⟩ := hl.sh
  obtain ⟨sa, sn, sc, rfl, Hsn, sn1, sn2⟩ := hs.sh
  obtain ⟨da, dn, dc, rfl, Hdn, dn1, dn2⟩ := hd.sh
  have HT0 := Lib.hid ht
  have HL0 := Lib.hid hl
  have HS0 := Lib.hid hs
  have HD0 := Lib.hid hd
  have HT := Lib.hid ht
  have HL := Lib.hid hl
  have HS := Lib.hid hs
  have HD := Lib.hid hd
  clear ht hl hs hd
  rw [← Hln.out] at f2
  rw [← Htn.out] at f1
  have HSV : Hid (∀ W, TV W (.slice ta tn tc) s.ts → LeV W (.slice la ln lc) s.ls → SeV W (.slice sa sn sc) s.ss → DkV W (.slice da dn dc) s.ds → SV W (.agg #[.int .i64 s.term, .int .i64 s.stamp, .int .i64 s.next, .slice ta tn tc, .slice la ln lc, .slice sa sn sc, .slice da dn dc]) s) := Lib.hid (fun W h1 h2 h3 h4 => ⟨_, _, _, _, rfl, h1, h2, h3, h4⟩)
  have HZB := Lib.hid (fun t => outL_bd s.ls t hz)
  have HOF := Lib.hid (fun t : Int => show -9223372036854775808 ≤ outL s.ls t ∧ outL s.ls t ≤ 9223372036854775807 by have := HZB.out t; rw [← Hln.out] at this; omega)
  have HOU := Lib.hid (fun t W v (h : SV W v s) => rout_any v s t W h HFEW.out hz)
  clear hz
  have HB : Hid (Below w.heap.size w w) := Lib.hid (Below.refl _ _)
  go_enter Try.func42, Try.ntmps42
  go_upto_region 1 with fail
  obtain ⟨N, hN⟩ : ∃ n0, n0 = w.heap.size := ⟨_, rfl⟩
  have HLON : Hid (w.heap.size ≤ N) := Lib.hid (by have := HB.out.size; omega)
  obtain ⟨W1, hA0⟩ : ∃ W0, W0 = w.alloc (.cells #[.int .i64 s.term, .int .i64 s.stamp, .int .i64 s.next, .slice ta tn tc, .slice la ln lc, .slice sa sn sc, .slice da dn dc] 27) := ⟨_, rfl⟩
  have hB : Below w.heap.size w W1 := by rw [hA0]; exact (Below.refl _ _).alloc (Nat.le_refl _) _
  have hS0 : W1.heap.size = N + 1 := by rw [hA0]; simp [← hN]
  have HR := Lib.hid (show Blk W1 N #[.int .i64 s.term, .int .i64 s.stamp, .int .i64 s.next, .slice ta tn tc, .slice la ln lc, .slice sa sn sc, .slice da dn dc] 27 by rw [hA0, hN]; exact blk_new _ _ _)
  replace HB := Lib.hid (HB.out.trans (hB.mono HB.out.size))
  replace HT := Lib.hid (HT0.out.below HB.out)
  replace HL := Lib.hid (HL0.out.below HB.out)
  replace HS := Lib.hid (HS0.out.below HB.out)
  replace HD := Lib.hid (HD0.out.below HB.out)
  clear hB
  obtain ⟨W2, hA1⟩ : ∃ W0, W0 = W1.alloc (.cells #[.int .i64 0, .int .i64 0, .int .i64 0, .slice none 0 0, .slice none 0 0, .slice none 0 0, .slice none 0 0] 27) := ⟨_, rfl⟩
  have hB : Below W1.heap.size W1 W2 := by rw [hA1]; exact (Below.refl _ _).alloc (Nat.le_refl _) _
  have hS1 : W2.heap.size = N + 2 := by rw [hA1]; simp [hS0]
  have HZR := Lib.hid (show Blk W2 (N + 1) #[.int .i64 0, .int .i64 0, .int .i64 0, .slice none 0 0, .slice none 0 0, .slice none 0 0, .slice none 0 0] 27 by rw [hA1, ← hS0]; exact blk_new _ _ _)
  replace HB := Lib.hid (HB.out.trans (hB.mono HB.out.size))
  replace HT := Lib.hid (HT0.out.below HB.out)
  replace HL := Lib.hid (HL0.out.below HB.out)
  replace HS := Lib.hid (HS0.out.below HB.out)
  replace HD := Lib.hid (HD0.out.below HB.out)
  replace HR := Lib.hid (HR.out.step hB)
  clear hB
  have HSN := Lib.hid hS1
  rw [← hN, ← hA0, ← hA1]
  clear hA1 hA0 hN hS0 hS1
  obtain ⟨M, hM⟩ : ∃ M, M = W2.heap.size := ⟨_, rfl⟩
  have HLOM : Hid (w.heap.size ≤ M) := Lib.hid (by rw [hM]; exact HB.out.size)
  have HFM0 : Hid (M ≤ W2.heap.size) := Lib.hid (by omega)
  have HMQ := Lib.hid hM
  clear hM
  go_wp2_with fail
  go_loopw [3, 4, 5] (fun o k _ wr => ∃ (i : Nat) (vo : Value) (ob : Option Nat), i ≤ 16 ∧ k = .int .i64 ((i : Int) + 1) ∧ o = vo ∧ InO M wr vo ob (outsL s.ls i) ∧ Below M W2 wr) (fun _ k _ _ => 17 - (intOf k).toNat)
  case atStart => exact ⟨0, _, _, Nat.zero_le _, rfl, rfl, ino_nil W2 M, Below.refl _ _⟩
  case round =>
    obtain ⟨i, vo, ob, hi, rfl, rfl, hor, hBM⟩ := hrel
    have HOR := Lib.hid hor
    have HBC := Lib.hid hBM
    have HFM : Hid (M ≤ wr.heap.size) := Lib.hid (Nat.le_trans HFM0.out hBM.size)
    have hB : Below W2.heap.size W2 wr := by rw [← HMQ.out]; exact hBM
    clear hor hBM
    replace HB := Lib.hid (HB.out.trans (hB.mono HB.out.size))
    replace HT := Lib.hid (HT0.out.below HB.out)
    replace HL := Lib.hid (HL0.out.below HB.out)
    replace HS := Lib.hid (HS0.out.below HB.out)
    replace HD := Lib.hid (HD0.out.below HB.out)
    replace HR := Lib.hid (HR.out.step hB)
    replace HZR := Lib.hid (HZR.out.step hB)
    clear hB
    by_cases hlt : i < 16
    · skip
      have b9 : (((i : Int) + 1) ≤ 16) = True := eq_true (by omega)
      have ww5 : IntKind.i64.wrap (((i : Int) + 1) + 1) = ((i : Int) + 1) + 1 := IntWalk.i64_in _ (by omega)
      have HX := Lib.hid (HOF.out ((i : Int) + 1))
      have HSU := Lib.hid (outsL_succ s.ls i)
      have HO1 := Lib.hid (fun W v (h : SV W v s) => HOU.out ((i : Int) + 1) W v h)
      obtain ⟨z, hz⟩ : ∃ z, z = outL s.ls ((i : Int) + 1) := ⟨_, rfl⟩
      rw [← hz] at HX HSU HO1
      clear hz
      have qR0 : wr.cell? ⟨N, 0, none⟩ = some (.int .i64 s.term) := cell_at HR.out 0
      have qR1 : wr.cell? ⟨N, 1, none⟩ = some (.int .i64 s.stamp) := cell_at HR.out 1
      have qR2 : wr.cell? ⟨N, 2, none⟩ = some (.int .i64 s.next) := cell_at HR.out 2
      have qR3 : wr.cell? ⟨N, 3, none⟩ = some (.slice ta tn tc) := cell_at HR.out 3
      have qR4 : wr.cell? ⟨N, 4, none⟩ = some (.slice la ln lc) := cell_at HR.out 4
      have qR5 : wr.cell? ⟨N, 5, none⟩ = some (.slice sa sn sc) := cell_at HR.out 5
      have qR6 : wr.cell? ⟨N, 6, none⟩ = some (.slice da dn dc) := cell_at HR.out 6
      have qRz : ∀ j, wr.frozen? ⟨N, j, none⟩ = false := fun j => free_at HR.out j
      have qRl : N < wr.heap.size := HR.out.lt
      go_wp2_with fail
      go_at_call 15
      go_fit (HO1.out _ _ (HSV.out _ HT.out HL.out HS.out HD.out))
      rintro e W3 ⟨rfl, hB⟩
      clear qR0 qR1 qR2 qR3 qR4 qR5 qR6 qRz qRl
      replace HB := Lib.hid (HB.out.trans (hB.mono HB.out.size))
      replace HT := Lib.hid (HT0.out.below HB.out)
      replace HL := Lib.hid (HL0.out.below HB.out)
      replace HS := Lib.hid (HS0.out.below HB.out)
      replace HD := Lib.hid (HD0.out.below HB.out)
      replace HR := Lib.hid (HR.out.step hB)
      replace HZR := Lib.hid (HZR.out.step hB)
      replace HOR := Lib.hid (HOR.out.step hB)
      replace HBC := Lib.hid (HBC.out.trans (hB.mono HFM.out))
      replace HFM := Lib.hid (Nat.le_trans HFM.out hB.size)
      clear hB
      have hA : Below W3.heap.size W3 (W3.alloc (.cells #[.int .i64 z] 3)) := (Below.refl _ _).alloc (Nat.le_refl _) _
      obtain ⟨v4, ob4, W4, hrun, hor, hBM0⟩ := in_app (ty := 45) (HOR.out.step hA) (inv_one (blk_new W3 _ _) HX.out) (Nat.le_trans HFM.out hA.size) (by rw [outsL_len]; simp only [List.length_cons, List.length_nil]; omega)
      have hBM : Below M W3 W4 := (hA.mono HFM.out).trans hBM0
      have HRUN := Lib.hid hrun
      clear hA hBM0
      go_wp2_with (at_builtin; refine Lib.wpList_append_run _ rfl (.tmp 13) (.tmp 15) 45 45 rfl _ _ rfl rfl _ _ HRUN.out ?_)
      replace HBC := Lib.hid (HBC.out.trans hBM)
      replace HFM := Lib.hid (Nat.le_trans HFM.out hBM.size)
      clear HOR
      have HOR := Lib.hid hor
      clear HRUN hrun hor hBM
      replace HOR := Lib.hid (by have h := HOR.out; rw [← HSU.out] at h; exact h)
      go_wp2_with fail
      go_roundw
      case rel => exact ⟨i + 1, _, _, by omega, by go_num, rfl, HOR.out, HBC.out⟩
      case measure => first | (simp [intOf]; done) | (simp [intOf]; omega)
    · skip
      obtain rfl : i = 16 := by omega
      have b9 : ((((16 : Nat) : Int) + 1) ≤ 16) = False := eq_false (by omega)
      have hv := HOR.out.v
      obtain ⟨oa, on, oc, rfl, Hon, on1, on2⟩ := hv.sh
      obtain ⟨ib, io, hI⟩ := hv.ints
      rw [outsL_len] at Hon
      obtain rfl : on = 16 := Hon.out
      have HSP := Lib.hid (rsweep_any (.slice ta tn tc) s.ts oa 16 oc ib io _ wr HT.out hI (by rw [← Htn.out]; exact f1))
      rw [swL_outs] at HSP
      clear hv hI
      have qR0 : wr.cell? ⟨N, 0, none⟩ = some (.int .i64 s.term) := cell_at HR.out 0
      have qR1 : wr.cell? ⟨N, 1, none⟩ = some (.int .i64 s.stamp) := cell_at HR.out 1
      have qR2 : wr.cell? ⟨N, 2, none⟩ = some (.int .i64 s.next) := cell_at HR.out 2
      have qR3 : wr.cell? ⟨N, 3, none⟩ = some (.slice ta tn tc) := cell_at HR.out 3
      have qR4 : wr.cell? ⟨N, 4, none⟩ = some (.slice la ln lc) := cell_at HR.out 4
      have qR5 : wr.cell? ⟨N, 5, none⟩ = some (.slice sa sn sc) := cell_at HR.out 5
      have qR6 : wr.cell? ⟨N, 6, none⟩ = some (.slice da dn dc) := cell_at HR.out 6
      have qRz : ∀ j, wr.frozen? ⟨N, j, none⟩ = false := fun j => free_at HR.out j
      have qRl : N < wr.heap.size := HR.out.lt
      go_wp2_with fail
      go_at_call 78
      go_fit HSP.out
      rintro e W3 ⟨vq, rfl, hvq, hB⟩
      clear qR0 qR1 qR2 qR3 qR4 qR5 qR6 qRz qRl
      replace HB := Lib.hid (HB.out.trans (hB.mono HB.out.size))
      replace HT := Lib.hid (HT0.out.below HB.out)
      replace HL := Lib.hid (HL0.out.below HB.out)
      replace HS := Lib.hid (HS0.out.below HB.out)
      replace HD := Lib.hid (HD0.out.below HB.out)
      replace HR := Lib.hid (HR.out.step hB)
      replace HZR := Lib.hid (HZR.out.step hB)
      clear hB
      obtain ⟨b1, m1, k1, rfl, Hb1, x1, y1⟩ := hvq.sh
      have HQ := Lib.hid hvq
      have HQ0 := Lib.hid hvq
      clear hvq
      have qR0 : W3.cell? ⟨N, 0, none⟩ = some (.int .i64 s.term) := cell_at HR.out 0
      have qR1 : W3.cell? ⟨N, 1, none⟩ = some (.int .i64 s.stamp) := cell_at HR.out 1
      have qR2 : W3.cell? ⟨N, 2, none⟩ = some (.int .i64 s.next) := cell_at HR.out 2
      have qR3 : W3.cell? ⟨N, 3, none⟩ = some (.slice ta tn tc) := cell_at HR.out 3
      have qR4 : W3.cell? ⟨N, 4, none⟩ = some (.slice la ln lc) := cell_at HR.out 4
      have qR5 : W3.cell? ⟨N, 5, none⟩ = some (.slice sa sn sc) := cell_at HR.out 5
      have qR6 : W3.cell? ⟨N, 6, none⟩ = some (.slice da dn dc) := cell_at HR.out 6
      have qRz : ∀ j, W3.frozen? ⟨N, j, none⟩ = false := fun j => free_at HR.out j
      have qRl : N < W3.heap.size := HR.out.lt
      have qZR0 : W3.cell? ⟨(N + 1), 0, none⟩ = some (.int .i64 0) := cell_at HZR.out 0
      have qZR1 : W3.cell? ⟨(N + 1), 1, none⟩ = some (.int .i64 0) := cell_at HZR.out 1
      have qZR2 : W3.cell? ⟨(N + 1), 2, none⟩ = some (.int .i64 0) := cell_at HZR.out 2
      have qZR3 : W3.cell? ⟨(N + 1), 3, none⟩ = some (.slice none 0 0) := cell_at HZR.out 3
      have qZR4 : W3.cell? ⟨(N + 1), 4, none⟩ = some (.slice none 0 0) := cell_at HZR.out 4
      have qZR5 : W3.cell? ⟨(N + 1), 5, none⟩ = some (.slice none 0 0) := cell_at HZR.out 5
      have qZR6 : W3.cell? ⟨(N + 1), 6, none⟩ = some (.slice none 0 0) := cell_at HZR.out 6
      have qZRz : ∀ j, W3.frozen? ⟨(N + 1), j, none⟩ = false := fun j => free_at HZR.out j
      have qZRl : (N + 1) < W3.heap.size := HZR.out.lt
      go_upto_region 8 with fail
      clear qR0 qR1 qR2 qR3 qR4 qR5 qR6 qRz qRl qZR0 qZR1 qZR2 qZR3 qZR4 qZR5 qZR6 qZRz qZRl
      obtain ⟨W4, hWS⟩ : ∃ WS, WS = W3.setCell ⟨N, 3, none⟩ (.slice b1 m1 k1) := ⟨_, rfl⟩
      rw [← hWS]
      have hfS : Fr [N] W3 W4 := by rw [hWS]; exact (Fr.refl _ _).setCell _ (.inl (by simp)) _
      have hkS : Blk W4 N #[.int .i64 s.term, .int .i64 s.stamp, .int .i64 s.next, .slice b1 m1 k1, .slice la ln lc, .slice sa sn sc, .slice da dn dc] 27 := by rw [hWS]; exact HR.out.set 3 _
      replace HB := Lib.hid (HB.out.trans (hfS.below HB.out.size (by have := HLON.out; simp; try omega)))
      replace HT := Lib.hid (HT0.out.below HB.out)
      replace HL := Lib.hid (HL0.out.below HB.out)
      replace HS := Lib.hid (HS0.out.below HB.out)
      replace HD := Lib.hid (HD0.out.below HB.out)
      replace HZR := Lib.hid (show Blk W4 (N + 1) #[.int .i64 0, .int .i64 0, .int .i64 0, .slice none 0 0, .slice none 0 0, .slice none 0 0, .slice none 0 0] 27 from (hfS.block _ HZR.out.lt (by simp; try omega)).trans HZR.out)
      replace HQ := Lib.hid (HQ.out.fr HR.out hfS)
      replace HR := Lib.hid (show Blk W4 N #[.int .i64 s.term, .int .i64 s.stamp, .int .i64 s.next, .slice b1 m1 k1, .slice la ln lc, .slice sa sn sc, .slice da dn dc] 27 from hkS)
      clear hWS hfS hkS
      have qR0 : W4.cell? ⟨N, 0, none⟩ = some (.int .i64 s.term) := cell_at HR.out 0
      have qR1 : W4.cell? ⟨N, 1, none⟩ = some (.int .i64 s.stamp) := cell_at HR.out 1
      have qR2 : W4.cell? ⟨N, 2, none⟩ = some (.int .i64 s.next) := cell_at HR.out 2
      have qR3 : W4.cell? ⟨N, 3, none⟩ = some (.slice b1 m1 k1) := cell_at HR.out 3
      have qR4 : W4.cell? ⟨N, 4, none⟩ = some (.slice la ln lc) := cell_at HR.out 4
      have qR5 : W4.cell? ⟨N, 5, none⟩ = some (.slice sa sn sc) := cell_at HR.out 5
      have qR6 : W4.cell? ⟨N, 6, none⟩ = some (.slice da dn dc) := cell_at HR.out 6
      have qRz : ∀ j, W4.frozen? ⟨N, j, none⟩ = false := fun j => free_at HR.out j
      have qRl : N < W4.heap.size := HR.out.lt
      have qZR0 : W4.cell? ⟨(N + 1), 0, none⟩ = some (.int .i64 0) := cell_at HZR.out 0
      have qZR1 : W4.cell? ⟨(N + 1), 1, none⟩ = some (.int .i64 0) := cell_at HZR.out 1
      have qZR2 : W4.cell? ⟨(N + 1), 2, none⟩ = some (.int .i64 0) := cell_at HZR.out 2
      have qZR3 : W4.cell? ⟨(N + 1), 3, none⟩ = some (.slice none 0 0) := cell_at HZR.out 3
      have qZR4 : W4.cell? ⟨(N + 1), 4, none⟩ = some (.slice none 0 0) := cell_at HZR.out 4
      have qZR5 : W4.cell? ⟨(N + 1), 5, none⟩ = some (.slice none 0 0) := cell_at HZR.out 5
      have qZR6 : W4.cell? ⟨(N + 1), 6, none⟩ = some (.slice none 0 0) := cell_at HZR.out 6
      have qZRz : ∀ j, W4.frozen? ⟨(N + 1), j, none⟩ = false := fun j => free_at HZR.out j
      have qZRl : (N + 1) < W4.heap.size := HZR.out.lt
      go_wp2_with fail
      clear qR0 qR1 qR2 qR3 qR4 qR5 qR6 qRz qRl qZR0 qZR1 qZR2 qZR3 qZR4 qZR5 qZR6 qZRz qZRl
      obtain ⟨LS, hLS⟩ : ∃ L : List Value, L = [.int .i64 s.term, .int .i64 s.stamp, .int .i64 s.next, .slice b1 m1 k1, .slice la ln lc, .slice sa sn sc, .slice da dn dc] := ⟨_, rfl⟩
      obtain ⟨W5, hWS⟩ : ∃ WS, WS = W4.setCells (N + 1) 0 LS := ⟨_, rfl⟩
      have hch := hWS
      rw [hLS] at hch
      simp only [World.setCells, Nat.zero_add, Nat.reduceAdd] at hch
      rw [← hch]
      clear hch
      have hkS := stC_blk HZR.out LS (by rw [hLS]; rfl)
      have hfS := stC_fr (N + 1) LS 0 W4
      rw [← hWS] at hkS hfS
      rw [hLS] at hkS
      replace HB := Lib.hid (HB.out.trans (hfS.below HB.out.size (by have := HLON.out; simp; try omega)))
      replace HT := Lib.hid (HT0.out.below HB.out)
      replace HL := Lib.hid (HL0.out.below HB.out)
      replace HS := Lib.hid (HS0.out.below HB.out)
      replace HD := Lib.hid (HD0.out.below HB.out)
      replace HR := Lib.hid (show Blk W5 N #[.int .i64 s.term, .int .i64 s.stamp, .int .i64 s.next, .slice b1 m1 k1, .slice la ln lc, .slice sa sn sc, .slice da dn dc] 27 from (hfS.block _ HR.out.lt (by simp; try omega)).trans HR.out)
      replace HQ := Lib.hid (HQ.out.fr HZR.out hfS)
      replace HZR := Lib.hid (show Blk W5 (N + 1) #[.int .i64 s.term, .int .i64 s.stamp, .int .i64 s.next, .slice b1 m1 k1, .slice la ln lc, .slice sa sn sc, .slice da dn dc] 27 from hkS)
      clear hWS hLS hkS hfS
      have qZR0 : W5.cell? ⟨(N + 1), 0, none⟩ = some (.int .i64 s.term) := cell_at HZR.out 0
      have qZR1 : W5.cell? ⟨(N + 1), 1, none⟩ = some (.int .i64 s.stamp) := cell_at HZR.out 1
      have qZR2 : W5.cell? ⟨(N + 1), 2, none⟩ = some (.int .i64 s.next) := cell_at HZR.out 2
      have qZR3 : W5.cell? ⟨(N + 1), 3, none⟩ = some (.slice b1 m1 k1) := cell_at HZR.out 3
      have qZR4 : W5.cell? ⟨(N + 1), 4, none⟩ = some (.slice la ln lc) := cell_at HZR.out 4
      have qZR5 : W5.cell? ⟨(N + 1), 5, none⟩ = some (.slice sa sn sc) := cell_at HZR.out 5
      have qZR6 : W5.cell? ⟨(N + 1), 6, none⟩ = some (.slice da dn dc) := cell_at HZR.out 6
      have qZRz : ∀ j, W5.frozen? ⟨(N + 1), j, none⟩ = false := fun j => free_at HZR.out j
      have qZRl : (N + 1) < W5.heap.size := HZR.out.lt
      exact bodyPost_ret (v := .agg #[.int .i64 s.term, .int .i64 s.stamp, .int .i64 s.next, .slice b1 m1 k1, .slice la ln lc, .slice sa sn sc, .slice da dn dc]) (by simp [results, Try.results42, go_sem, qZR0, qZR1, qZR2, qZR3, qZR4, qZR5, qZR6]) rfl ⟨_, rfl, HQ.out, HB.out⟩
end Go.Proofs.Ytfgnjpdlchimpaa
namespace Go.Proofs.Ytfgnjpdlchimpaa
open Go.RowKit
set_option linter.unusedSimpArgs false
set_option linter.unusedVariables false

set_option maxRecDepth 100000 in
theorem fin_room {b R T D : Int} (hb : 0 ≤ b) (hR : 0 ≤ R) (hT : 0 ≤ T) (hD : 0 ≤ D) (h : D ≤ b ∨ (0 < R ∧ (D - b) / R < T)) : within (b + R * T) D = D := by
  have hp : 0 ≤ R * T := Int.mul_nonneg hR hT
  rcases h with h | ⟨h1, h2⟩
  · unfold within; omega
  · have h3 : D - b < T * R := Int.lt_mul_of_ediv_lt h1 h2
    rw [Int.mul_comm] at h3
    unfold within; omega
set_option maxRecDepth 100000 in
theorem fin_sum {b R T D : Int} (hb : 0 ≤ b) (hR : 0 ≤ R) (hT : 0 ≤ T) (h0 : b < D) (h : R = 0 ∨ (0 < R ∧ T ≤ (D - b) / R)) : within (b + R * T) D = b + R * T := by
  have hp : 0 ≤ R * T := Int.mul_nonneg hR hT
  rcases h with rfl | ⟨h1, h2⟩
  · unfold within; omega
  · have h3 : T * R ≤ D - b := (Int.le_ediv_iff_mul_le h1).1 h2
    rw [Int.mul_comm] at h3
    unfold within; omega

set_option maxRecDepth 100000 in
theorem creditS_eq (b rate burst out ticks : Int) : creditS b rate burst out ticks = within (max b 0 + within rate 1000000 * within ticks 1099511627776) (room burst out) := rfl

set_option maxRecDepth 100000 in
theorem fin_room' {b rate burst out ticks : Int} (B R T : Int) (eB : max b 0 = B) (eR : within rate 1000000 = R) (eT : within ticks 1099511627776 = T) (h : room burst out ≤ B ∨ (0 < R ∧ (room burst out - B) / R < T)) : room burst out = creditS b rate burst out ticks := by
  have h1 := within_bd rate 1000000 (by omega)
  have h2 := within_bd ticks 1099511627776 (by omega)
  have h4 := room_bd burst out
  rw [creditS_eq, eB, eR, eT]
  exact (fin_room (by omega) (eR ▸ h1.1) (eT ▸ h2.1) h4.1 h).symm
set_option maxRecDepth 100000 in
theorem fin_sum' {b rate burst out ticks : Int} {x : Int} (B R T : Int) (hx : x = B + R * T) (eB : max b 0 = B) (eR : within rate 1000000 = R) (eT : within ticks 1099511627776 = T) (h0 : B < room burst out) (h : R = 0 ∨ (0 < R ∧ T ≤ (room burst out - B) / R)) : x = creditS b rate burst out ticks := by
  have h1 := within_bd rate 1000000 (by omega)
  have h2 := within_bd ticks 1099511627776 (by omega)
  rw [hx, creditS_eq, eB, eR, eT]
  exact (fin_sum (by omega) (eR ▸ h1.1) (eT ▸ h2.1) h0 h).symm

set_option maxRecDepth 100000 in
theorem prod_in (rate ticks : Int) (r1 : 0 ≤ rate) (r2 : rate ≤ 1000000) (t1 : 0 ≤ ticks) (t2 : ticks ≤ 1099511627776) : 0 ≤ rate * ticks ∧ rate * ticks ≤ 1099511627776000000 :=
  ⟨Int.mul_nonneg r1 t1, Int.le_trans (Int.mul_le_mul r2 t2 t1 (by omega)) (by omega)⟩
set_option maxRecDepth 100000 in
theorem clamp_cases (n most : Int) (h : 0 ≤ most) : (n < 0 ∧ Hid (within n most = 0)) ∨ (0 ≤ n ∧ n ≤ most ∧ Hid (within n most = n)) ∨ (0 ≤ n ∧ most < n ∧ Hid (within n most = most)) := by
  rcases (show n < 0 ∨ (0 ≤ n ∧ n ≤ most) ∨ (0 ≤ n ∧ most < n) by omega) with h1 | ⟨h1, h2⟩ | ⟨h1, h2⟩
  · exact .inl ⟨h1, Lib.hid (by unfold within; omega)⟩
  · exact .inr (.inl ⟨h1, h2, Lib.hid (by unfold within; omega)⟩)
  · exact .inr (.inr ⟨h1, h2, Lib.hid (by unfold within; omega)⟩)
set_option maxRecDepth 100000 in
theorem sign_cases (n : Int) : (n < 0 ∧ Hid (max n 0 = 0)) ∨ (0 ≤ n ∧ Hid (max n 0 = n)) := by
  rcases (show n < 0 ∨ 0 ≤ n by omega) with h1 | h1
  · exact .inl ⟨h1, Lib.hid (by omega)⟩
  · exact .inr ⟨h1, Lib.hid (by omega)⟩

set_option maxRecDepth 100000 in
set_option maxHeartbeats 8000000 in
set_option maxRecDepth 100000 in
theorem rcredit_any (b rate burst out ticks : Int) (hb : b ≤ 9223372036854775807) (ho : out ≤ 9223372036854775807) (w : World) : Calls Try.prog 41 #[.int .i64 b, .int .i64 rate, .int .i64 burst, .int .i64 out, .int .i64 ticks] w fun e w' => e = .returned (.int .i64 (creditS b rate burst out ticks)) ∧ w = w' := by
  have h4 := room_bd burst out
  rcases sign_cases b with ⟨b1, eB⟩ | ⟨b1, eB⟩
  all_goals
    rcases clamp_cases rate 1000000 (by omega) with ⟨r1, eR⟩ | ⟨r1, r2, eR⟩ | ⟨r1, r2, eR⟩
    all_goals
      rcases clamp_cases ticks 1099511627776 (by omega) with ⟨t1, eT⟩ | ⟨t1, t2, eT⟩ | ⟨t1, t2, eT⟩
      all_goals
        have hp := prod_in rate ticks
        try replace hp := hp (by assumption) (by assumption) (by assumption) (by assumption)
        try (obtain ⟨hp1, hp2⟩ := hp)
        try clear hp
        go_enter Try.func41, Try.ntmps41
        go_wp2_with (refine (rroom_any _ _ ho _).mono ?_; rintro e w' ⟨rfl, rfl⟩)
        any_goals (go_ret; refine ⟨ret_int ?_, rfl⟩)
        all_goals first
          | exact fin_room' _ _ _ eB.out eR.out eT.out (.inl (by omega))
          | exact fin_room' _ _ _ eB.out eR.out eT.out (.inr (by first | omega | (simp only [Int.sub_zero] at *; omega)))
          | exact fin_sum' _ _ _ (by omega) eB.out eR.out eT.out (by omega) (by first | omega | (simp only [Int.sub_zero] at *; omega))
end Go.Proofs.Ytfgnjpdlchimpaa
namespace Go.Proofs.Ytfgnjpdlchimpaa
open Go.RowKit
set_option linter.unusedSimpArgs false
set_option linter.unusedVariables false

set_option maxRecDepth 100000 in
set_option maxHeartbeats 16000000 in
theorem rcredit_led (v : Value) (s : StE) (ticks : Int) (w : World) (h : SV w v s) (hf : fewS s) :
    Calls Try.prog 19 #[v, .int .i64 ticks] w fun e w' => ∃ v', e = .returned v' ∧ SV w' v' (credS s ticks) ∧ Below w.heap.size w w' := by
  have HFEW := Lib.hid hf
  obtain ⟨f1, f2, f3, f4⟩ := hf
  obtain ⟨vt, vl, vs, vd, rfl, ht, hl, hs, hd⟩ := h
  obtain ⟨ta, tn, tc, rfl, Htn, tn1, tn2⟩ := ht.sh
  obtain ⟨la, ln, lc, rfl, Hln, ln1, ln2⟩ := hl.sh
  obtain ⟨sa, sn, sc, rfl, Hsn, sn1, sn2⟩ := hs.sh
  obtain ⟨da, dn, dc, rfl, Hdn, dn1, dn2⟩ := hd.sh
  have HT0 := Lib.hid ht
  have HL0 := Lib.hid hl
  have HS0 := Lib.hid hs
  have HD0 := Lib.hid hd
  have HT := Lib.hid ht
  have HL := Lib.hid hl
  have HS := Lib.hid hs
  have HD := Lib.hid hd
  clear ht hl hs hd
  rw [← Hln.out] at f2
  rw [← Htn.out] at f1
  have HSV : Hid (∀ W, TV W (.slice ta tn tc) s.ts → LeV W (.slice la ln lc) s.ls → SeV W (.slice sa sn sc) s.ss → DkV W (.slice da dn dc) s.ds → SV W (.agg #[.int .i64 s.term, .int .i64 s.stamp, .int .i64 s.next, .slice ta tn tc, .slice la ln lc, .slice sa sn sc, .slice da dn dc]) s) := Lib.hid (fun W h1 h2 h3 h4 => ⟨_, _, _, _, rfl, h1, h2, h3, h4⟩)
  have HCK := Lib.hid (fun W v (h : SV W v s) => checkS_any v s W h HFEW.out)
  have HTW := Lib.hid (fun W v (h : SV W v s) => twinO_any v s W h HFEW.out)
  obtain ⟨C, hC⟩ : ∃ C, C = chkS s := ⟨_, rfl⟩
  have HSZ := Lib.hid (fun h : C = true => lesB_size (s := s) (by rw [hC] at h; unfold chkS at h; simp only [Bool.and_eq_true] at h; exact h.1.2))
  rw [← hC] at HCK
  have HCE := Lib.hid hC
  clear hC
  replace HCK := Lib.hid (fun W v (h : SV W v s) => rcheckS_any v s W h HFEW.out)
  replace HTW := Lib.hid (fun W v (h : SV W v s) => rcopyO_any v s W h HFEW.out)
  rw [← HCE.out] at HCK
  obtain ⟨R, hR⟩ : ∃ R, R = credS s ticks := ⟨_, rfl⟩
  rw [← hR]
  unfold credS at hR
  rw [← HCE.out] at hR
  have HR9 := Lib.hid hR
  clear hR
  obtain ⟨F, hF⟩ : ∃ F : Nat → List TnE, F = mapK (credT s.ls ticks) s.ts := ⟨_, rfl⟩
  have HF0 : Hid (F 0 = s.ts) := Lib.hid (by rw [hF]; exact mapK_zero _ _)
  have HFL : Hid (∀ k, k ≤ tn → (F k).length = tn) := Lib.hid (fun k hk => by rw [hF, mapK_len _ _ _ (by rw [← Htn.out]; exact hk), ← Htn.out])
  have HFE : Hid (F tn = s.ts.map (credT s.ls ticks)) := Lib.hid (by rw [hF, Htn.out]; exact mapK_end _ _)
  have HFA : Hid (∀ k x, s.ts[k]? = some x → (F k)[k]? = some x) := Lib.hid (fun k x h => by rw [hF]; exact mapK_at _ _ _ _ h)
  have HFS : Hid (∀ k x, s.ts[k]? = some x → F (k + 1) = (F k).set k (credT s.ls ticks x)) := Lib.hid (fun k x h => by rw [hF]; exact mapK_succ _ _ _ _ h)
  clear hF
  have HB : Hid (Below w.heap.size w w) := Lib.hid (Below.refl _ _)
  have hmf : ∀ (fn : Fn) (first cap : Array Value) (w : World), (Instr.makeFunc fn first cap).run Try.prog w = .ok (.func fn first cap) w := fun _ _ _ _ => rfl
  go_enter Try.func19, Try.ntmps19
  go_upto_region 1 with fail
  obtain ⟨N, hN⟩ : ∃ n0, n0 = w.heap.size := ⟨_, rfl⟩
  have HLON : Hid (w.heap.size ≤ N) := Lib.hid (by have := HB.out.size; omega)
  obtain ⟨W1, hA0⟩ : ∃ W0, W0 = w.alloc (.cells #[.int .i64 s.term, .int .i64 s.stamp, .int .i64 s.next, .slice ta tn tc, .slice la ln lc, .slice sa sn sc, .slice da dn dc] 27) := ⟨_, rfl⟩
  have hB : Below w.heap.size w W1 := by rw [hA0]; exact (Below.refl _ _).alloc (Nat.le_refl _) _
  have hS0 : W1.heap.size = N + 1 := by rw [hA0]; simp [← hN]
  have HR := Lib.hid (show Blk W1 N #[.int .i64 s.term, .int .i64 s.stamp, .int .i64 s.next, .slice ta tn tc, .slice la ln lc, .slice sa sn sc, .slice da dn dc] 27 by rw [hA0, hN]; exact blk_new _ _ _)
  replace HB := Lib.hid (HB.out.trans (hB.mono HB.out.size))
  replace HT := Lib.hid (HT0.out.below HB.out)
  replace HL := Lib.hid (HL0.out.below HB.out)
  replace HS := Lib.hid (HS0.out.below HB.out)
  replace HD := Lib.hid (HD0.out.below HB.out)
  clear hB
  obtain ⟨W2, hA1⟩ : ∃ W0, W0 = W1.alloc (.cells #[.int .i64 0, .int .i64 0, .int .i64 0, .slice none 0 0, .slice none 0 0, .slice none 0 0, .slice none 0 0] 27) := ⟨_, rfl⟩
  have hB : Below W1.heap.size W1 W2 := by rw [hA1]; exact (Below.refl _ _).alloc (Nat.le_refl _) _
  have hS1 : W2.heap.size = N + 2 := by rw [hA1]; simp [hS0]
  have HO := Lib.hid (show Blk W2 (N + 1) #[.int .i64 0, .int .i64 0, .int .i64 0, .slice none 0 0, .slice none 0 0, .slice none 0 0, .slice none 0 0] 27 by rw [hA1, ← hS0]; exact blk_new _ _ _)
  replace HB := Lib.hid (HB.out.trans (hB.mono HB.out.size))
  replace HT := Lib.hid (HT0.out.below HB.out)
  replace HL := Lib.hid (HL0.out.below HB.out)
  replace HS := Lib.hid (HS0.out.below HB.out)
  replace HD := Lib.hid (HD0.out.below HB.out)
  replace HR := Lib.hid (HR.out.step hB)
  clear hB
  have HSN := Lib.hid hS1
  rw [← hN, ← hA0, ← hA1]
  clear hA1 hA0 hN hS0 hS1
  have qR0 : W2.cell? ⟨N, 0, none⟩ = some (.int .i64 s.term) := cell_at HR.out 0
  have qR1 : W2.cell? ⟨N, 1, none⟩ = some (.int .i64 s.stamp) := cell_at HR.out 1
  have qR2 : W2.cell? ⟨N, 2, none⟩ = some (.int .i64 s.next) := cell_at HR.out 2
  have qR3 : W2.cell? ⟨N, 3, none⟩ = some (.slice ta tn tc) := cell_at HR.out 3
  have qR4 : W2.cell? ⟨N, 4, none⟩ = some (.slice la ln lc) := cell_at HR.out 4
  have qR5 : W2.cell? ⟨N, 5, none⟩ = some (.slice sa sn sc) := cell_at HR.out 5
  have qR6 : W2.cell? ⟨N, 6, none⟩ = some (.slice da dn dc) := cell_at HR.out 6
  have qRz : ∀ j, W2.frozen? ⟨N, j, none⟩ = false := fun j => free_at HR.out j
  have qRl : N < W2.heap.size := HR.out.lt
  go_wp2_with fail
  go_at_call 13
  go_fit (HCK.out _ _ (HSV.out _ HT.out HL.out HS.out HD.out))
  rintro e W3 ⟨rfl, hB⟩
  clear qR0 qR1 qR2 qR3 qR4 qR5 qR6 qRz qRl
  replace HB := Lib.hid (HB.out.trans (hB.mono HB.out.size))
  replace HT := Lib.hid (HT0.out.below HB.out)
  replace HL := Lib.hid (HL0.out.below HB.out)
  replace HS := Lib.hid (HS0.out.below HB.out)
  replace HD := Lib.hid (HD0.out.below HB.out)
  replace HR := Lib.hid (HR.out.step hB)
  replace HO := Lib.hid (HO.out.step hB)
  clear hB
  cases C
  · skip
    have qR0 : W3.cell? ⟨N, 0, none⟩ = some (.int .i64 s.term) := cell_at HR.out 0
    have qR1 : W3.cell? ⟨N, 1, none⟩ = some (.int .i64 s.stamp) := cell_at HR.out 1
    have qR2 : W3.cell? ⟨N, 2, none⟩ = some (.int .i64 s.next) := cell_at HR.out 2
    have qR3 : W3.cell? ⟨N, 3, none⟩ = some (.slice ta tn tc) := cell_at HR.out 3
    have qR4 : W3.cell? ⟨N, 4, none⟩ = some (.slice la ln lc) := cell_at HR.out 4
    have qR5 : W3.cell? ⟨N, 5, none⟩ = some (.slice sa sn sc) := cell_at HR.out 5
    have qR6 : W3.cell? ⟨N, 6, none⟩ = some (.slice da dn dc) := cell_at HR.out 6
    have qRz : ∀ j, W3.frozen? ⟨N, j, none⟩ = false := fun j => free_at HR.out j
    have qRl : N < W3.heap.size := HR.out.lt
    have qO0 : W3.cell? ⟨(N + 1), 0, none⟩ = some (.int .i64 0) := cell_at HO.out 0
    have qO1 : W3.cell? ⟨(N + 1), 1, none⟩ = some (.int .i64 0) := cell_at HO.out 1
    have qO2 : W3.cell? ⟨(N + 1), 2, none⟩ = some (.int .i64 0) := cell_at HO.out 2
    have qO3 : W3.cell? ⟨(N + 1), 3, none⟩ = some (.slice none 0 0) := cell_at HO.out 3
    have qO4 : W3.cell? ⟨(N + 1), 4, none⟩ = some (.slice none 0 0) := cell_at HO.out 4
    have qO5 : W3.cell? ⟨(N + 1), 5, none⟩ = some (.slice none 0 0) := cell_at HO.out 5
    have qO6 : W3.cell? ⟨(N + 1), 6, none⟩ = some (.slice none 0 0) := cell_at HO.out 6
    have qOz : ∀ j, W3.frozen? ⟨(N + 1), j, none⟩ = false := fun j => free_at HO.out j
    have qOl : (N + 1) < W3.heap.size := HO.out.lt
    go_wp2_with fail
    clear qR0 qR1 qR2 qR3 qR4 qR5 qR6 qRz qRl qO0 qO1 qO2 qO3 qO4 qO5 qO6 qOz qOl
    obtain ⟨LS, hLS⟩ : ∃ L : List Value, L = [.int .i64 s.term, .int .i64 s.stamp, .int .i64 s.next, .slice ta tn tc, .slice la ln lc, .slice sa sn sc, .slice da dn dc] := ⟨_, rfl⟩
    obtain ⟨W4, hWS⟩ : ∃ WS, WS = W3.setCells (N + 1) 0 LS := ⟨_, rfl⟩
    have hch := hWS
    rw [hLS] at hch
    simp only [World.setCells, Nat.zero_add, Nat.reduceAdd] at hch
    rw [← hch]
    clear hch
    have hkS := stC_blk HO.out LS (by rw [hLS]; rfl)
    have hfS := stC_fr (N + 1) LS 0 W3
    rw [← hWS] at hkS hfS
    rw [hLS] at hkS
    replace HB := Lib.hid (HB.out.trans (hfS.below HB.out.size (by have := HLON.out; simp; try omega)))
    replace HT := Lib.hid (HT0.out.below HB.out)
    replace HL := Lib.hid (HL0.out.below HB.out)
    replace HS := Lib.hid (HS0.out.below HB.out)
    replace HD := Lib.hid (HD0.out.below HB.out)
    replace HR := Lib.hid (show Blk W4 N #[.int .i64 s.term, .int .i64 s.stamp, .int .i64 s.next, .slice ta tn tc, .slice la ln lc, .slice sa sn sc, .slice da dn dc] 27 from (hfS.block _ HR.out.lt (by simp; try omega)).trans HR.out)
    replace HO := Lib.hid (show Blk W4 (N + 1) #[.int .i64 s.term, .int .i64 s.stamp, .int .i64 s.next, .slice ta tn tc, .slice la ln lc, .slice sa sn sc, .slice da dn dc] 27 from hkS)
    clear hWS hLS hkS hfS
    have qO0 : W4.cell? ⟨(N + 1), 0, none⟩ = some (.int .i64 s.term) := cell_at HO.out 0
    have qO1 : W4.cell? ⟨(N + 1), 1, none⟩ = some (.int .i64 s.stamp) := cell_at HO.out 1
    have qO2 : W4.cell? ⟨(N + 1), 2, none⟩ = some (.int .i64 s.next) := cell_at HO.out 2
    have qO3 : W4.cell? ⟨(N + 1), 3, none⟩ = some (.slice ta tn tc) := cell_at HO.out 3
    have qO4 : W4.cell? ⟨(N + 1), 4, none⟩ = some (.slice la ln lc) := cell_at HO.out 4
    have qO5 : W4.cell? ⟨(N + 1), 5, none⟩ = some (.slice sa sn sc) := cell_at HO.out 5
    have qO6 : W4.cell? ⟨(N + 1), 6, none⟩ = some (.slice da dn dc) := cell_at HO.out 6
    have qOz : ∀ j, W4.frozen? ⟨(N + 1), j, none⟩ = false := fun j => free_at HO.out j
    have qOl : (N + 1) < W4.heap.size := HO.out.lt
    exact bodyPost_ret (v := .agg #[.int .i64 s.term, .int .i64 s.stamp, .int .i64 s.next, .slice ta tn tc, .slice la ln lc, .slice sa sn sc, .slice da dn dc]) (by simp [results, Try.results19, go_sem, qO0, qO1, qO2, qO3, qO4, qO5, qO6]) rfl ⟨_, rfl, (by rw [show R = s from HR9.out]; exact ⟨_, _, _, _, rfl, HT.out, HL.out, HS.out, HD.out⟩), HB.out⟩
  obtain rfl : R = sweptS ⟨s.term, s.stamp, s.next, s.ts.map (credT s.ls ticks), s.ls, s.ss, s.ds⟩ := HR9.out
  have HSZ9 := Lib.hid (HSZ.out rfl)
  have HF9 : Hid (fewS ⟨s.term, s.stamp, s.next, s.ts.map (credT s.ls ticks), s.ls, s.ss, s.ds⟩) := Lib.hid ⟨(by show (s.ts.map _).length ≤ 200; rw [List.length_map]; exact HFEW.out.1), HFEW.out.2.1, HFEW.out.2.2.1, HFEW.out.2.2.2⟩
  have HOB := Lib.hid (fun t => outL_bd s.ls t HSZ9.out)
  have HOU := Lib.hid (fun t W v (h : SV W v s) => rout_any v s t W h HFEW.out HSZ9.out)
  have qR0 : W3.cell? ⟨N, 0, none⟩ = some (.int .i64 s.term) := cell_at HR.out 0
  have qR1 : W3.cell? ⟨N, 1, none⟩ = some (.int .i64 s.stamp) := cell_at HR.out 1
  have qR2 : W3.cell? ⟨N, 2, none⟩ = some (.int .i64 s.next) := cell_at HR.out 2
  have qR3 : W3.cell? ⟨N, 3, none⟩ = some (.slice ta tn tc) := cell_at HR.out 3
  have qR4 : W3.cell? ⟨N, 4, none⟩ = some (.slice la ln lc) := cell_at HR.out 4
  have qR5 : W3.cell? ⟨N, 5, none⟩ = some (.slice sa sn sc) := cell_at HR.out 5
  have qR6 : W3.cell? ⟨N, 6, none⟩ = some (.slice da dn dc) := cell_at HR.out 6
  have qRz : ∀ j, W3.frozen? ⟨N, j, none⟩ = false := fun j => free_at HR.out j
  have qRl : N < W3.heap.size := HR.out.lt
  have FOO := Lib.hid HO.out.lt
  have HB0L : Hid (w.heap.size ≤ W3.heap.size) := Lib.hid HB.out.size
  go_wp2_with fail
  go_at_call 40
  go_fit (HTW.out _ _ (HSV.out _ HT.out HL.out HS.out HD.out))
  rintro e W4 ⟨v2, rfl, hso, hB⟩
  clear qR0 qR1 qR2 qR3 qR4 qR5 qR6 qRz qRl
  replace HB := Lib.hid (HB.out.trans (hB.mono HB.out.size))
  replace HT := Lib.hid (HT0.out.below HB.out)
  replace HL := Lib.hid (HL0.out.below HB.out)
  replace HS := Lib.hid (HS0.out.below HB.out)
  replace HD := Lib.hid (HD0.out.below HB.out)
  replace HR := Lib.hid (HR.out.step hB)
  replace HO := Lib.hid (HO.out.step hB)
  clear hB
  obtain ⟨vt2, vl2, vs2, vd2, ot, ol, os, od, rfl, o1, o2, o3, o4⟩ := hso
  obtain ⟨b1, m1, k1, rfl, Hb1, x1, y1⟩ := o1.v.sh
  obtain ⟨b2, m2, k2, rfl, Hb2, x2, y2⟩ := o2.v.sh
  obtain ⟨b3, m3, k3, rfl, Hb3, x3, y3⟩ := o3.v.sh
  obtain ⟨b4, m4, k4, rfl, Hb4, x4, y4⟩ := o4.v.sh
  have O1 := Lib.hid o1
  have FO1 := Lib.hid (show (N + 1) < W3.heap.size from FOO.out)
  have O2 := Lib.hid o2
  have FO2 := Lib.hid (show (N + 1) < W3.heap.size from FOO.out)
  have O3 := Lib.hid o3
  have FO3 := Lib.hid (show (N + 1) < W3.heap.size from FOO.out)
  have O4 := Lib.hid o4
  have FO4 := Lib.hid (show (N + 1) < W3.heap.size from FOO.out)
  clear o1 o2 o3 o4
  go_upto_region 4 with fail
  obtain ⟨U9, hU9⟩ : ∃ n0, n0 = W4.heap.size := ⟨_, rfl⟩
  have HXU9HR : Hid (N < U9) := Lib.hid (by rw [hU9]; exact HR.out.lt)
  have HXU9HO : Hid ((N + 1) < U9) := Lib.hid (by rw [hU9]; exact HO.out.lt)
  have HLOU9 : Hid (w.heap.size ≤ U9) := Lib.hid (by have := HB.out.size; omega)
  obtain ⟨W5, hA0⟩ : ∃ W0, W0 = W4.alloc (.cells #[.int .i64 s.term, .int .i64 s.stamp, .int .i64 s.next, .slice b1 m1 k1, .slice b2 m2 k2, .slice b3 m3 k3, .slice b4 m4 k4] 27) := ⟨_, rfl⟩
  have hB : Below W4.heap.size W4 W5 := by rw [hA0]; exact (Below.refl _ _).alloc (Nat.le_refl _) _
  have hS0 : W5.heap.size = U9 + 1 := by rw [hA0]; simp [← hU9]
  have HU := Lib.hid (show Blk W5 U9 #[.int .i64 s.term, .int .i64 s.stamp, .int .i64 s.next, .slice b1 m1 k1, .slice b2 m2 k2, .slice b3 m3 k3, .slice b4 m4 k4] 27 by rw [hA0, hU9]; exact blk_new _ _ _)
  replace HB := Lib.hid (HB.out.trans (hB.mono HB.out.size))
  replace HT := Lib.hid (HT0.out.below HB.out)
  replace HL := Lib.hid (HL0.out.below HB.out)
  replace HS := Lib.hid (HS0.out.below HB.out)
  replace HD := Lib.hid (HD0.out.below HB.out)
  replace HR := Lib.hid (HR.out.step hB)
  replace HO := Lib.hid (HO.out.step hB)
  replace O1 := Lib.hid (O1.out.step hB)
  replace O2 := Lib.hid (O2.out.step hB)
  replace O3 := Lib.hid (O3.out.step hB)
  replace O4 := Lib.hid (O4.out.step hB)
  clear hB
  have HSU9 := Lib.hid hS0
  rw [← hU9, ← hA0]
  clear hA0 hU9 hS0
  obtain rfl : m1 = tn := Hb1.out.trans Htn.out.symm
  have qU0 : W5.cell? ⟨U9, 0, none⟩ = some (.int .i64 s.term) := cell_at HU.out 0
  have qU1 : W5.cell? ⟨U9, 1, none⟩ = some (.int .i64 s.stamp) := cell_at HU.out 1
  have qU2 : W5.cell? ⟨U9, 2, none⟩ = some (.int .i64 s.next) := cell_at HU.out 2
  have qU3 : W5.cell? ⟨U9, 3, none⟩ = some (.slice b1 m1 k1) := cell_at HU.out 3
  have qU4 : W5.cell? ⟨U9, 4, none⟩ = some (.slice b2 m2 k2) := cell_at HU.out 4
  have qU5 : W5.cell? ⟨U9, 5, none⟩ = some (.slice b3 m3 k3) := cell_at HU.out 5
  have qU6 : W5.cell? ⟨U9, 6, none⟩ = some (.slice b4 m4 k4) := cell_at HU.out 6
  have qUz : ∀ j, W5.frozen? ⟨U9, j, none⟩ = false := fun j => free_at HU.out j
  have qUl : U9 < W5.heap.size := HU.out.lt
  have qR0 : W5.cell? ⟨N, 0, none⟩ = some (.int .i64 s.term) := cell_at HR.out 0
  have qR1 : W5.cell? ⟨N, 1, none⟩ = some (.int .i64 s.stamp) := cell_at HR.out 1
  have qR2 : W5.cell? ⟨N, 2, none⟩ = some (.int .i64 s.next) := cell_at HR.out 2
  have qR3 : W5.cell? ⟨N, 3, none⟩ = some (.slice ta m1 tc) := cell_at HR.out 3
  have qR4 : W5.cell? ⟨N, 4, none⟩ = some (.slice la ln lc) := cell_at HR.out 4
  have qR5 : W5.cell? ⟨N, 5, none⟩ = some (.slice sa sn sc) := cell_at HR.out 5
  have qR6 : W5.cell? ⟨N, 6, none⟩ = some (.slice da dn dc) := cell_at HR.out 6
  have qRz : ∀ j, W5.frozen? ⟨N, j, none⟩ = false := fun j => free_at HR.out j
  have qRl : N < W5.heap.size := HR.out.lt
  go_wp2_with fail
  clear qU0 qU1 qU2 qU3 qU4 qU5 qU6 qUz qUl qR0 qR1 qR2 qR3 qR4 qR5 qR6 qRz qRl
  have HO10 : Hid (TnO _ W5 _ ot (F 0)) := Lib.hid (by rw [HF0.out]; exact O1.out)
  go_loopw [6, 7] (fun k _ wr => ∃ i : Nat, i ≤ m1 ∧ k = .int .i64 i ∧ TnO W3.heap.size wr (.slice b1 m1 k1) ot (F i) ∧ FrB W5.heap.size ot.toList W5 wr) (fun k _ _ => m1 - (intOf k).toNat)
  case atStart => exact ⟨0, Nat.zero_le _, rfl, HO10.out, FrB.refl _ _ _⟩
  case round =>
    obtain ⟨i, hi, rfl, hrow, hfrb⟩ := hrel
    have HFRB := Lib.hid hfrb
    replace HB := Lib.hid (HB.out.trans (hfrb.below HB.out.size (by intro x hx; have := Option.mem_toList.1 hx; have h9 := hrow.2.2 x this; have := HB0L.out; omega)))
    replace HT := Lib.hid (HT0.out.below HB.out)
    replace HL := Lib.hid (HL0.out.below HB.out)
    replace HS := Lib.hid (HS0.out.below HB.out)
    replace HD := Lib.hid (HD0.out.below HB.out)
    replace HR := Lib.hid (HR.out.frBT O1.out hfrb (by decide))
    replace HO := Lib.hid (HO.out.frBT O1.out hfrb (by decide))
    replace HU := Lib.hid (HU.out.frBT O1.out hfrb (by decide))
    replace O2 := Lib.hid (O2.out.frBT O1.out hfrb)
    replace O3 := Lib.hid (O3.out.frBT O1.out hfrb)
    replace O4 := Lib.hid (O4.out.frBT O1.out hfrb)
    replace O1 := Lib.hid hrow
    have HBW : Hid (Below wr.heap.size wr wr) := Lib.hid (Below.refl _ _)
    clear hrow hfrb HO10
    by_cases hk : i < m1
    · skip
      have b9 : (i < m1) = True := eq_true hk
      have b8 : decide (i < m1) = true := decide_eq_true hk
      obtain ⟨gr, rfl, rfl⟩ : ∃ gr, ot = some gr ∧ b1 = some ⟨gr, 0, none⟩ := by
        rcases O1.out.1.cases with ⟨_, _, h0, _⟩ | ⟨gr, cap, cur, e1, e2, _⟩
        · exact absurd h0 (by rw [HFL.out i hi]; omega)
        · injection e2 with e3 e4 e5
          exact ⟨gr, e1, e3⟩
      obtain ⟨g, o, x, ea, g1, g2, q0, q1, q2, q3, q4⟩ := O1.out.v.at i hk
      injection ea with ea
      injection ea with ea1 ea2 _
      subst ea1 ea2
      obtain ⟨x', hx'⟩ : ∃ x', s.ts[i]? = some x' := ⟨_, List.getElem?_eq_getElem (by rw [← Htn.out]; exact hk)⟩
      obtain rfl : x' = x := Option.some.inj ((HFA.out i x' hx').symm.trans g2)
      have HFA2 := Lib.hid g2
      have HFS2 := Lib.hid (HFS.out i x' hx')
      have HG2 := Lib.hid (O1.out.2.2 gr rfl)
      have hox := O1.out.2.1 x' (List.mem_of_getElem? g2)
      have HOX := Lib.hid hox
      obtain ⟨ou, hou⟩ : ∃ ou, ou = outL s.ls x'.id := ⟨_, rfl⟩
      have hob := HOB.out x'.id
      rw [← hou, ← Hln.out] at hob
      have HOUE := Lib.hid hou
      obtain ⟨nb, hnb⟩ : ∃ nb, nb = creditS x'.bkt x'.rate x'.burst ou ticks := ⟨_, rfl⟩
      have hnbd := creditS_bd x'.bkt x'.rate x'.burst ou ticks
      rw [← hnb] at hnbd
      have HCR := Lib.hid (fun W => rcredit_any x'.bkt x'.rate x'.burst ou ticks (by have := HOX.out.2.2.2.1; omega) (by omega) W)
      rw [← hnb] at HCR
      have HCT : Hid (credT s.ls ticks x' = if x'.gone then x' else ⟨x'.id, x'.rate, x'.burst, nb, x'.gone⟩) := Lib.hid (by unfold credT; rw [← hou, ← hnb])
      obtain ⟨yg, hyg⟩ : ∃ yg, yg = x'.gone := ⟨_, rfl⟩
      rw [← hyg] at q4 HCT
      have ww5 : IntKind.i64.wrap ((i : Int) + 1) = (i : Int) + 1 := IntWalk.i64_in _ (by omega)
      obtain ⟨g3, e3, c3, z3⟩ := O1.out.1.cell (i * 5 + 3) (by rw [HFL.out i hi]; omega)
      obtain rfl := Option.some.inj e3
      have HZ3 := Lib.hid z3
      have HYG := Lib.hid hyg
      clear g2 hx' hox hou hnb e3 c3 z3 hyg
      simp only [Nat.zero_add] at q0 q1 q2 q3 q4
      have qU0 : wr.cell? ⟨U9, 0, none⟩ = some (.int .i64 s.term) := cell_at HU.out 0
      have qU1 : wr.cell? ⟨U9, 1, none⟩ = some (.int .i64 s.stamp) := cell_at HU.out 1
      have qU2 : wr.cell? ⟨U9, 2, none⟩ = some (.int .i64 s.next) := cell_at HU.out 2
      have qU3 : wr.cell? ⟨U9, 3, none⟩ = some (.slice (some ⟨gr, 0, none⟩) m1 k1) := cell_at HU.out 3
      have qU4 : wr.cell? ⟨U9, 4, none⟩ = some (.slice b2 m2 k2) := cell_at HU.out 4
      have qU5 : wr.cell? ⟨U9, 5, none⟩ = some (.slice b3 m3 k3) := cell_at HU.out 5
      have qU6 : wr.cell? ⟨U9, 6, none⟩ = some (.slice b4 m4 k4) := cell_at HU.out 6
      have qUz : ∀ j, wr.frozen? ⟨U9, j, none⟩ = false := fun j => free_at HU.out j
      have qUl : U9 < wr.heap.size := HU.out.lt
      have qR0 : wr.cell? ⟨N, 0, none⟩ = some (.int .i64 s.term) := cell_at HR.out 0
      have qR1 : wr.cell? ⟨N, 1, none⟩ = some (.int .i64 s.stamp) := cell_at HR.out 1
      have qR2 : wr.cell? ⟨N, 2, none⟩ = some (.int .i64 s.next) := cell_at HR.out 2
      have qR3 : wr.cell? ⟨N, 3, none⟩ = some (.slice ta m1 tc) := cell_at HR.out 3
      have qR4 : wr.cell? ⟨N, 4, none⟩ = some (.slice la ln lc) := cell_at HR.out 4
      have qR5 : wr.cell? ⟨N, 5, none⟩ = some (.slice sa sn sc) := cell_at HR.out 5
      have qR6 : wr.cell? ⟨N, 6, none⟩ = some (.slice da dn dc) := cell_at HR.out 6
      have qRz : ∀ j, wr.frozen? ⟨N, j, none⟩ = false := fun j => free_at HR.out j
      have qRl : N < wr.heap.size := HR.out.lt
      go_upto_region 8 with fail
      clear qU0 qU1 qU2 qU3 qU4 qU5 qU6 qUz qUl qR0 qR1 qR2 qR3 qR4 qR5 qR6 qRz qRl
      obtain ⟨T9, hT9⟩ : ∃ n0, n0 = wr.heap.size := ⟨_, rfl⟩
      have HXT9HR : Hid (N < T9) := Lib.hid (by rw [hT9]; exact HR.out.lt)
      have HXT9HO : Hid ((N + 1) < T9) := Lib.hid (by rw [hT9]; exact HO.out.lt)
      have HXT9HU : Hid (U9 < T9) := Lib.hid (by rw [hT9]; exact HU.out.lt)
      have HUT9O1 : Hid (∀ g, some gr = some g → g < T9) := Lib.hid (fun g e => by rw [hT9]; first | (subst e; exact O1.out.1.lt) | (obtain rfl := Option.some.inj e; exact O1.out.1.lt))
      have HLOT9 : Hid (w.heap.size ≤ T9) := Lib.hid (by have := HB.out.size; omega)
      obtain ⟨W6, hA0⟩ : ∃ W0, W0 = wr.alloc (.cells #[.int .i64 x'.id, .int .i64 x'.rate, .int .i64 x'.burst, .int .i64 x'.bkt, .bool yg] 54) := ⟨_, rfl⟩
      have hB : Below wr.heap.size wr W6 := by rw [hA0]; exact (Below.refl _ _).alloc (Nat.le_refl _) _
      have hS0 : W6.heap.size = T9 + 1 := by rw [hA0]; simp [← hT9]
      have HT9 := Lib.hid (show Blk W6 T9 #[.int .i64 x'.id, .int .i64 x'.rate, .int .i64 x'.burst, .int .i64 x'.bkt, .bool yg] 54 by rw [hA0, hT9]; exact blk_new _ _ _)
      replace HB := Lib.hid (HB.out.trans (hB.mono HB.out.size))
      replace HT := Lib.hid (HT0.out.below HB.out)
      replace HL := Lib.hid (HL0.out.below HB.out)
      replace HS := Lib.hid (HS0.out.below HB.out)
      replace HD := Lib.hid (HD0.out.below HB.out)
      replace HR := Lib.hid (HR.out.step hB)
      replace HO := Lib.hid (HO.out.step hB)
      replace O1 := Lib.hid (O1.out.step hB)
      replace O2 := Lib.hid (O2.out.step hB)
      replace O3 := Lib.hid (O3.out.step hB)
      replace O4 := Lib.hid (O4.out.step hB)
      replace HU := Lib.hid (HU.out.step hB)
      replace HBW := Lib.hid (HBW.out.trans (hB.mono HBW.out.size))
      clear hB
      have HST9 := Lib.hid hS0
      rw [← hT9, ← hA0]
      clear hA0 hT9 hS0
      clear q0 q1 q2 q3 q4
      replace HG2 : Hid (_ ≤ gr) := HG2
      cases yg
      rotate_left
      · skip
        replace HFS2 : Hid (F (i + 1) = F i) := Lib.hid (by rw [HFS2.out, HCT.out]; exact set_id _ _ _ HFA2.out)
        have qT90 : W6.cell? ⟨T9, 0, none⟩ = some (.int .i64 x'.id) := cell_at HT9.out 0
        have qT91 : W6.cell? ⟨T9, 1, none⟩ = some (.int .i64 x'.rate) := cell_at HT9.out 1
        have qT92 : W6.cell? ⟨T9, 2, none⟩ = some (.int .i64 x'.burst) := cell_at HT9.out 2
        have qT93 : W6.cell? ⟨T9, 3, none⟩ = some (.int .i64 x'.bkt) := cell_at HT9.out 3
        have qT94 : W6.cell? ⟨T9, 4, none⟩ = some (.bool true) := cell_at HT9.out 4
        have qT9z : ∀ j, W6.frozen? ⟨T9, j, none⟩ = false := fun j => free_at HT9.out j
        have qT9l : T9 < W6.heap.size := HT9.out.lt
        have qU0 : W6.cell? ⟨U9, 0, none⟩ = some (.int .i64 s.term) := cell_at HU.out 0
        have qU1 : W6.cell? ⟨U9, 1, none⟩ = some (.int .i64 s.stamp) := cell_at HU.out 1
        have qU2 : W6.cell? ⟨U9, 2, none⟩ = some (.int .i64 s.next) := cell_at HU.out 2
        have qU3 : W6.cell? ⟨U9, 3, none⟩ = some (.slice (some ⟨gr, 0, none⟩) m1 k1) := cell_at HU.out 3
        have qU4 : W6.cell? ⟨U9, 4, none⟩ = some (.slice b2 m2 k2) := cell_at HU.out 4
        have qU5 : W6.cell? ⟨U9, 5, none⟩ = some (.slice b3 m3 k3) := cell_at HU.out 5
        have qU6 : W6.cell? ⟨U9, 6, none⟩ = some (.slice b4 m4 k4) := cell_at HU.out 6
        have qUz : ∀ j, W6.frozen? ⟨U9, j, none⟩ = false := fun j => free_at HU.out j
        have qUl : U9 < W6.heap.size := HU.out.lt
        go_wp2_with fail
        go_roundw
        case rel => exact ⟨i + 1, by omega, by go_num, by rw [HFS2.out]; exact O1.out, HFRB.out.trans (FrB.of_below HBW.out HFRB.out.size)⟩
        case measure => first | (simp [intOf]; done) | (simp [intOf]; omega)
      replace HFS2 : Hid (F (i + 1) = (F i).set i ⟨x'.id, x'.rate, x'.burst, nb, x'.gone⟩) := Lib.hid (by rw [HFS2.out, HCT.out, ← HYG.out]; rfl)
      have qT90 : W6.cell? ⟨T9, 0, none⟩ = some (.int .i64 x'.id) := cell_at HT9.out 0
      have qT91 : W6.cell? ⟨T9, 1, none⟩ = some (.int .i64 x'.rate) := cell_at HT9.out 1
      have qT92 : W6.cell? ⟨T9, 2, none⟩ = some (.int .i64 x'.burst) := cell_at HT9.out 2
      have qT93 : W6.cell? ⟨T9, 3, none⟩ = some (.int .i64 x'.bkt) := cell_at HT9.out 3
      have qT94 : W6.cell? ⟨T9, 4, none⟩ = some (.bool false) := cell_at HT9.out 4
      have qT9z : ∀ j, W6.frozen? ⟨T9, j, none⟩ = false := fun j => free_at HT9.out j
      have qT9l : T9 < W6.heap.size := HT9.out.lt
      go_wp2_with fail
      clear qT90 qT91 qT92 qT93 qT94 qT9z qT9l
      refine wp_region_held_drew (S := fun X => (X.cell? ⟨N, 0, none⟩ = some (.int .i64 s.term) ∧ X.cell? ⟨N, 1, none⟩ = some (.int .i64 s.stamp) ∧ X.cell? ⟨N, 2, none⟩ = some (.int .i64 s.next) ∧ X.cell? ⟨N, 3, none⟩ = some (.slice ta m1 tc) ∧ X.cell? ⟨N, 4, none⟩ = some (.slice la ln lc) ∧ X.cell? ⟨N, 5, none⟩ = some (.slice sa sn sc) ∧ X.cell? ⟨N, 6, none⟩ = some (.slice da dn dc) ∧ N < X.heap.size) ∧ (X.cell? ⟨U9, 0, none⟩ = some (.int .i64 s.term) ∧ X.cell? ⟨U9, 1, none⟩ = some (.int .i64 s.stamp) ∧ X.cell? ⟨U9, 2, none⟩ = some (.int .i64 s.next) ∧ X.cell? ⟨U9, 3, none⟩ = some (.slice (some ⟨gr, 0, none⟩) m1 k1) ∧ X.cell? ⟨U9, 4, none⟩ = some (.slice b2 m2 k2) ∧ X.cell? ⟨U9, 5, none⟩ = some (.slice b3 m3 k3) ∧ X.cell? ⟨U9, 6, none⟩ = some (.slice b4 m4 k4) ∧ U9 < X.heap.size) ∧ (X.cell? ⟨T9, 0, none⟩ = some (.int .i64 x'.id) ∧ X.cell? ⟨T9, 1, none⟩ = some (.int .i64 x'.rate) ∧ X.cell? ⟨T9, 2, none⟩ = some (.int .i64 x'.burst) ∧ X.cell? ⟨T9, 3, none⟩ = some (.int .i64 x'.bkt) ∧ X.cell? ⟨T9, 4, none⟩ = some (.bool false) ∧ T9 < X.heap.size)) (by kernel_rfl) ⟨⟨cell_at HR.out 0, cell_at HR.out 1, cell_at HR.out 2, cell_at HR.out 3, cell_at HR.out 4, cell_at HR.out 5, cell_at HR.out 6, HR.out.lt⟩, ⟨cell_at HU.out 0, cell_at HU.out 1, cell_at HU.out 2, cell_at HU.out 3, cell_at HU.out 4, cell_at HU.out 5, cell_at HU.out 6, HU.out.lt⟩, ⟨cell_at HT9.out 0, cell_at HT9.out 1, cell_at HT9.out 2, cell_at HT9.out 3, cell_at HT9.out 4, HT9.out.lt⟩⟩ (fun hHeld => ?_)
      ((refine wpAnyH_take (i := 0) (v := ?_) (by (simp only [List.getElem?_toArray, List.getElem?_cons_succ, List.getElem?_cons_zero]); rfl) (by kernel_rfl) (by kernel_rfl) (by kernel_rfl) (by exact fun _ _ _ h => h) (Or.inl ⟨by rfl, ?_⟩) (by assumption) ?_); rotate_left; focus (intro wS hSw; (try dsimp only at hSw); go_simp; first | done | with_reducible rfl); try simp only [Act.put, List.setIfInBounds_toArray, List.set_cons_zero, List.set_cons_succ])
      ((refine wpAnyH_take (i := 1) (v := ?_) (by (simp only [List.getElem?_toArray, List.getElem?_cons_succ, List.getElem?_cons_zero]); rfl) (by kernel_rfl) (by kernel_rfl) (by kernel_rfl) (by exact fun _ _ _ h => h) (Or.inl ⟨by rfl, ?_⟩) (by assumption) ?_); rotate_left; focus (intro wS hSw; (try dsimp only at hSw); go_simp; first | done | with_reducible rfl); try simp only [Act.put, List.setIfInBounds_toArray, List.set_cons_zero, List.set_cons_succ])
      ((refine wpAnyH_take (i := 2) (v := ?_) (by (simp only [List.getElem?_toArray, List.getElem?_cons_succ, List.getElem?_cons_zero]); rfl) (by kernel_rfl) (by kernel_rfl) (by kernel_rfl) (by exact fun _ _ _ h => h) (Or.inl ⟨by rfl, ?_⟩) (by assumption) ?_); rotate_left; focus (intro wS hSw; (try dsimp only at hSw); go_simp; first | done | with_reducible rfl); try simp only [Act.put, List.setIfInBounds_toArray, List.set_cons_zero, List.set_cons_succ])
      ((refine wpAnyH_take (i := 3) (v := ?_) (by (simp only [List.getElem?_toArray, List.getElem?_cons_succ, List.getElem?_cons_zero]); rfl) (by kernel_rfl) (by kernel_rfl) (by kernel_rfl) (by exact fun _ _ _ h => h) (Or.inl ⟨by rfl, ?_⟩) (by assumption) ?_); rotate_left; focus (intro wS hSw; (try dsimp only at hSw); go_simp; first | done | with_reducible rfl); try simp only [Act.put, List.setIfInBounds_toArray, List.set_cons_zero, List.set_cons_succ])
      ((refine wpAnyH_take (i := 4) (v := ?_) (by (simp only [List.getElem?_toArray, List.getElem?_cons_succ, List.getElem?_cons_zero]); rfl) (by kernel_rfl) (by kernel_rfl) (by kernel_rfl) (by exact fun _ _ _ h => h) (Or.inl ⟨by rfl, ?_⟩) (by assumption) ?_); rotate_left; focus (intro wS hSw; (try dsimp only at hSw); go_simp; first | done | with_reducible rfl); try simp only [Act.put, List.setIfInBounds_toArray, List.set_cons_zero, List.set_cons_succ])
      ((refine wpAnyH_take (i := 5) (v := ?_) (by (simp only [List.getElem?_toArray, List.getElem?_cons_succ, List.getElem?_cons_zero]); rfl) (by kernel_rfl) (by kernel_rfl) (by kernel_rfl) (by exact fun _ _ _ h => h) (Or.inl ⟨by rfl, ?_⟩) (by assumption) ?_); rotate_left; focus (intro wS hSw; (try dsimp only at hSw); go_simp; first | done | with_reducible rfl); try simp only [Act.put, List.setIfInBounds_toArray, List.set_cons_zero, List.set_cons_succ])
      ((refine wpAnyH_take (i := 6) (v := ?_) (by (simp only [List.getElem?_toArray, List.getElem?_cons_succ, List.getElem?_cons_zero]); rfl) (by kernel_rfl) (by kernel_rfl) (by kernel_rfl) (by exact fun _ _ _ h => h) (Or.inl ⟨by rfl, ?_⟩) (by assumption) ?_); rotate_left; focus (intro wS hSw; (try dsimp only at hSw); go_simp; first | done | with_reducible rfl); try simp only [Act.put, List.setIfInBounds_toArray, List.set_cons_zero, List.set_cons_succ])
      ((refine wpAnyH_take (i := 7) (v := ?_) (by (simp only [List.getElem?_toArray, List.getElem?_cons_succ, List.getElem?_cons_zero]); rfl) (by kernel_rfl) (by kernel_rfl) (by kernel_rfl) (by exact fun _ _ _ h => h) (Or.inl ⟨by rfl, ?_⟩) (by assumption) ?_); rotate_left; focus (intro wS hSw; (try dsimp only at hSw); go_simp; first | done | with_reducible rfl); try simp only [Act.put, List.setIfInBounds_toArray, List.set_cons_zero, List.set_cons_succ])
      ((refine wpAnyH_take (i := 8) (v := ?_) (by (simp only [List.getElem?_toArray, List.getElem?_cons_succ, List.getElem?_cons_zero]); rfl) (by kernel_rfl) (by kernel_rfl) (by kernel_rfl) (by exact fun _ _ _ h => h) (Or.inl ⟨by rfl, ?_⟩) (by assumption) ?_); rotate_left; focus (intro wS hSw; (try dsimp only at hSw); go_simp; first | done | with_reducible rfl); try simp only [Act.put, List.setIfInBounds_toArray, List.set_cons_zero, List.set_cons_succ])
      ((refine wpAnyH_take (i := 9) (v := ?_) (by (simp only [List.getElem?_toArray, List.getElem?_cons_succ, List.getElem?_cons_zero]); rfl) (by kernel_rfl) (by kernel_rfl) (by kernel_rfl) (by exact fun _ _ _ h => h) (Or.inl ⟨by rfl, ?_⟩) (by assumption) ?_); rotate_left; focus (intro wS hSw; (try dsimp only at hSw); go_simp; first | done | with_reducible rfl); try simp only [Act.put, List.setIfInBounds_toArray, List.set_cons_zero, List.set_cons_succ])
      ((refine wpAnyH_take (i := 10) (v := ?_) (by (simp only [List.getElem?_toArray, List.getElem?_cons_succ, List.getElem?_cons_zero]); rfl) (by kernel_rfl) (by kernel_rfl) (by kernel_rfl) (by exact fun _ _ _ h => h) (Or.inl ⟨by rfl, ?_⟩) (by assumption) ?_); rotate_left; focus (intro wS hSw; (try dsimp only at hSw); go_simp; first | done | with_reducible rfl); try simp only [Act.put, List.setIfInBounds_toArray, List.set_cons_zero, List.set_cons_succ])
      ((refine wpAnyH_take (i := 11) (v := ?_) (by (simp only [List.getElem?_toArray, List.getElem?_cons_succ, List.getElem?_cons_zero]); rfl) (by kernel_rfl) (by kernel_rfl) (by kernel_rfl) (by exact fun _ _ _ h => h) (Or.inl ⟨by rfl, ?_⟩) (by assumption) ?_); rotate_left; focus (intro wS hSw; (try dsimp only at hSw); go_simp; first | done | with_reducible rfl); try simp only [Act.put, List.setIfInBounds_toArray, List.set_cons_zero, List.set_cons_succ])
      ((refine wpAnyH_take (i := 13) (v := ?_) (by (simp only [List.getElem?_toArray, List.getElem?_cons_succ, List.getElem?_cons_zero]); rfl) (by kernel_rfl) (by kernel_rfl) (by kernel_rfl) (by exact fun _ _ _ h => h) (Or.inl ⟨by rfl, ?_⟩) (by assumption) ?_); rotate_left; focus (intro wS hSw; (try dsimp only at hSw); go_simp; first | done | with_reducible rfl); try simp only [Act.put, List.setIfInBounds_toArray, List.set_cons_zero, List.set_cons_succ])
      have HOUX := Lib.hid (fun W v (h : SV W v s) => HOU.out x'.id W v h)
      rw [← HOUE.out] at HOUX
      refine wpAnyH_ready (rs := [12]) (by kernel_rfl) (by simp) ?_
      refine AllReadyH.cons (by (simp only [List.getElem?_toArray, List.getElem?_cons_succ, List.getElem?_cons_zero]); rfl) (fun K hK => ?_) AllReadyH.nil
      go_simp
      go_fit (HOUX.out _ _ (HSV.out _ (HT0.out.below HB.out.drew) (HL0.out.below HB.out.drew) (HS0.out.below HB.out.drew) (HD0.out.below HB.out.drew)))
      rintro e W7 ⟨rfl, hB⟩
      replace hB := below_undrew hB
      replace HB := Lib.hid (HB.out.trans (hB.mono HB.out.size))
      replace HT := Lib.hid (HT0.out.below HB.out)
      replace HL := Lib.hid (HL0.out.below HB.out)
      replace HS := Lib.hid (HS0.out.below HB.out)
      replace HD := Lib.hid (HD0.out.below HB.out)
      replace HR := Lib.hid (HR.out.step hB)
      replace HO := Lib.hid (HO.out.step hB)
      replace O1 := Lib.hid (O1.out.step hB)
      replace O2 := Lib.hid (O2.out.step hB)
      replace O3 := Lib.hid (O3.out.step hB)
      replace O4 := Lib.hid (O4.out.step hB)
      replace HU := Lib.hid (HU.out.step hB)
      replace HBW := Lib.hid (HBW.out.trans (hB.mono HBW.out.size))
      replace HT9 := Lib.hid (HT9.out.step hB)
      go_wp2_with fail
      refine hK.out _ _ ⟨⟨cell_at HR.out 0, cell_at HR.out 1, cell_at HR.out 2, cell_at HR.out 3, cell_at HR.out 4, cell_at HR.out 5, cell_at HR.out 6, HR.out.lt⟩, ⟨cell_at HU.out 0, cell_at HU.out 1, cell_at HU.out 2, cell_at HU.out 3, cell_at HU.out 4, cell_at HU.out 5, cell_at HU.out 6, HU.out.lt⟩, ⟨cell_at HT9.out 0, cell_at HT9.out 1, cell_at HT9.out 2, cell_at HT9.out 3, cell_at HT9.out 4, HT9.out.lt⟩⟩ (fun hHeld => ?_)
      clear hK K hB
      try simp only [Act.put, List.setIfInBounds_toArray, List.set_cons_zero, List.set_cons_succ]
      refine wpAnyH_ready (rs := [14]) (by kernel_rfl) (by simp) ?_
      refine AllReadyH.cons (by (simp only [List.getElem?_toArray, List.getElem?_cons_succ, List.getElem?_cons_zero]); rfl) (fun K hK => ?_) AllReadyH.nil
      go_simp
      go_fit (HCR.out _)
      rintro e WK ⟨rfl, rfl⟩
      go_wp2_with fail
      refine hK.out _ _ ⟨⟨cell_at HR.out 0, cell_at HR.out 1, cell_at HR.out 2, cell_at HR.out 3, cell_at HR.out 4, cell_at HR.out 5, cell_at HR.out 6, HR.out.lt⟩, ⟨cell_at HU.out 0, cell_at HU.out 1, cell_at HU.out 2, cell_at HU.out 3, cell_at HU.out 4, cell_at HU.out 5, cell_at HU.out 6, HU.out.lt⟩, ⟨cell_at HT9.out 0, cell_at HT9.out 1, cell_at HT9.out 2, cell_at HT9.out 3, cell_at HT9.out 4, HT9.out.lt⟩⟩ (fun hHeld => ?_)
      clear hK K
      try simp only [Act.put, List.setIfInBounds_toArray, List.set_cons_zero, List.set_cons_succ]
      ((refine wpAnyH_take (i := 15) (v := ?_) (by (simp only [List.getElem?_toArray, List.getElem?_cons_succ, List.getElem?_cons_zero]); rfl) (by kernel_rfl) (by kernel_rfl) (by kernel_rfl) (by exact fun _ _ _ h => h) (Or.inl ⟨by rfl, ?_⟩) (by assumption) ?_); rotate_left; focus (intro wS hSw; (try dsimp only at hSw); go_simp; first | done | with_reducible rfl); try simp only [Act.put, List.setIfInBounds_toArray, List.set_cons_zero, List.set_cons_succ])
      ((refine wpAnyH_take (i := 16) (v := ?_) (by (simp only [List.getElem?_toArray, List.getElem?_cons_succ, List.getElem?_cons_zero]); rfl) (by kernel_rfl) (by kernel_rfl) (by kernel_rfl) (by exact fun _ _ _ h => h) (Or.inl ⟨by rfl, ?_⟩) (by assumption) ?_); rotate_left; focus (intro wS hSw; (try dsimp only at hSw); go_simp; first | done | with_reducible rfl); try simp only [Act.put, List.setIfInBounds_toArray, List.set_cons_zero, List.set_cons_succ])
      have c6 : W7.cell? ⟨gr, i * 5 + 3, none⟩ = some (.int .i64 x'.bkt) := by
        obtain ⟨g, o, x, ea, g1, g2, q0, q1, q2, q3, q4⟩ := O1.out.v.at i hk
        injection ea with ea
        injection ea with ea1 ea2 _
        subst ea1 ea2
        obtain rfl : x' = x := Option.some.inj (HFA2.out.symm.trans g2)
        simpa using q3
      have z6 : W7.frozen? ⟨gr, i * 5 + 3, none⟩ = false := by
        obtain ⟨g3, e3, c3, z3⟩ := O1.out.1.cell (i * 5 + 3) (by rw [HFL.out i hi]; omega)
        obtain rfl := Option.some.inj e3
        exact z3
      have l6 : gr < W7.heap.size := O1.out.1.lt
      refine wpAnyH_ready (rs := [17]) (by kernel_rfl) (by simp) ?_
      refine AllReadyH.cons (by (simp only [List.getElem?_toArray, List.getElem?_cons_succ, List.getElem?_cons_zero]); rfl) (fun K hK => ?_) AllReadyH.nil
      rw [if_pos (by rfl)]
      go_simp
      obtain ⟨W8, hWS⟩ : ∃ WS, WS = W7.setCell ⟨gr, i * 5 + 3, none⟩ (.int .i64 nb) := ⟨_, rfl⟩
      rw [← hWS]
      have hfS : Fr [gr] W7 W8 := by rw [hWS]; exact (Fr.refl _ _).setCell _ (.inl (by simp)) _
      have hO1 := O1.out.setBkt HFA2.out nb (by omega)
      rw [← hWS] at hO1
      have hfB : FrB W7.heap.size (some gr).toList W7 W8 := FrB.of_fr hfS (Nat.le_refl _)
      replace HR := Lib.hid (HR.out.frBT O1.out hfB (by decide))
      replace HU := Lib.hid (HU.out.frBT O1.out hfB (by decide))
      have hne9 : T9 ≠ gr := by have h1 := HUT9O1.out gr rfl; omega
      replace HT9 := Lib.hid (show Blk _ T9 _ _ from (hfS.block T9 HT9.out.lt (by simpa using hne9)).trans HT9.out)
      replace O1 := Lib.hid hO1
      refine hK.out _ _ ⟨⟨cell_at HR.out 0, cell_at HR.out 1, cell_at HR.out 2, cell_at HR.out 3, cell_at HR.out 4, cell_at HR.out 5, cell_at HR.out 6, HR.out.lt⟩, ⟨cell_at HU.out 0, cell_at HU.out 1, cell_at HU.out 2, cell_at HU.out 3, cell_at HU.out 4, cell_at HU.out 5, cell_at HU.out 6, HU.out.lt⟩, ⟨cell_at HT9.out 0, cell_at HT9.out 1, cell_at HT9.out 2, cell_at HT9.out 3, cell_at HT9.out 4, HT9.out.lt⟩⟩ (fun hHeld => ?_)
      have HFB := Lib.hid hfB
      clear hK K hO1 hfS hfB hWS c6 z6 l6
      refine wpAnyH_done (by kernel_rfl) ?_ _
      try simp only [Act.put, List.setIfInBounds_toArray, List.set_cons_zero, List.set_cons_succ]
      go_wp2_with fail
      go_roundw
      case rel => exact ⟨i + 1, by omega, by go_num, by rw [HFS2.out]; exact O1.out, HFRB.out.trans ((FrB.of_below HBW.out HFRB.out.size).trans (HFB.out.mono0 (Nat.le_trans HFRB.out.size HBW.out.size)))⟩
      case measure => first | (simp [intOf]; done) | (simp [intOf]; omega)
    · skip
      have b9 : (i < m1) = False := eq_false hk
      have b8 : decide (i < m1) = false := decide_eq_false hk
      obtain rfl : m1 = i := by omega
      rw [HFE.out] at O1
      have HSP := Lib.hid (rswept_any _ _ _ _ ⟨s.term, s.stamp, s.next, s.ts.map (credT s.ls ticks), s.ls, s.ss, s.ds⟩ wr (tn_tv O1.out.v) O2.out.v O3.out.v O4.out.v HF9.out HSZ9.out)
      have qU0 : wr.cell? ⟨U9, 0, none⟩ = some (.int .i64 s.term) := cell_at HU.out 0
      have qU1 : wr.cell? ⟨U9, 1, none⟩ = some (.int .i64 s.stamp) := cell_at HU.out 1
      have qU2 : wr.cell? ⟨U9, 2, none⟩ = some (.int .i64 s.next) := cell_at HU.out 2
      have qU3 : wr.cell? ⟨U9, 3, none⟩ = some (.slice b1 m1 k1) := cell_at HU.out 3
      have qU4 : wr.cell? ⟨U9, 4, none⟩ = some (.slice b2 m2 k2) := cell_at HU.out 4
      have qU5 : wr.cell? ⟨U9, 5, none⟩ = some (.slice b3 m3 k3) := cell_at HU.out 5
      have qU6 : wr.cell? ⟨U9, 6, none⟩ = some (.slice b4 m4 k4) := cell_at HU.out 6
      have qUz : ∀ j, wr.frozen? ⟨U9, j, none⟩ = false := fun j => free_at HU.out j
      have qUl : U9 < wr.heap.size := HU.out.lt
      have qO0 : wr.cell? ⟨(N + 1), 0, none⟩ = some (.int .i64 0) := cell_at HO.out 0
      have qO1 : wr.cell? ⟨(N + 1), 1, none⟩ = some (.int .i64 0) := cell_at HO.out 1
      have qO2 : wr.cell? ⟨(N + 1), 2, none⟩ = some (.int .i64 0) := cell_at HO.out 2
      have qO3 : wr.cell? ⟨(N + 1), 3, none⟩ = some (.slice none 0 0) := cell_at HO.out 3
      have qO4 : wr.cell? ⟨(N + 1), 4, none⟩ = some (.slice none 0 0) := cell_at HO.out 4
      have qO5 : wr.cell? ⟨(N + 1), 5, none⟩ = some (.slice none 0 0) := cell_at HO.out 5
      have qO6 : wr.cell? ⟨(N + 1), 6, none⟩ = some (.slice none 0 0) := cell_at HO.out 6
      have qOz : ∀ j, wr.frozen? ⟨(N + 1), j, none⟩ = false := fun j => free_at HO.out j
      have qOl : (N + 1) < wr.heap.size := HO.out.lt
      go_wp2_with fail
      go_at_call 42
      go_fit HSP.out
      rintro e W6 ⟨vq, rfl, hvq, hB⟩
      clear qU0 qU1 qU2 qU3 qU4 qU5 qU6 qUz qUl qO0 qO1 qO2 qO3 qO4 qO5 qO6 qOz qOl
      replace HB := Lib.hid (HB.out.trans (hB.mono HB.out.size))
      replace HT := Lib.hid (HT0.out.below HB.out)
      replace HL := Lib.hid (HL0.out.below HB.out)
      replace HS := Lib.hid (HS0.out.below HB.out)
      replace HD := Lib.hid (HD0.out.below HB.out)
      replace HR := Lib.hid (HR.out.step hB)
      replace HO := Lib.hid (HO.out.step hB)
      replace O1 := Lib.hid (O1.out.step hB)
      replace O2 := Lib.hid (O2.out.step hB)
      replace O3 := Lib.hid (O3.out.step hB)
      replace O4 := Lib.hid (O4.out.step hB)
      replace HU := Lib.hid (HU.out.step hB)
      clear hB
      obtain ⟨b8, m8, k8, rfl, Hb8, x8, y8⟩ := hvq.sh
      have HQ := Lib.hid hvq
      clear hvq
      have qO0 : W6.cell? ⟨(N + 1), 0, none⟩ = some (.int .i64 0) := cell_at HO.out 0
      have qO1 : W6.cell? ⟨(N + 1), 1, none⟩ = some (.int .i64 0) := cell_at HO.out 1
      have qO2 : W6.cell? ⟨(N + 1), 2, none⟩ = some (.int .i64 0) := cell_at HO.out 2
      have qO3 : W6.cell? ⟨(N + 1), 3, none⟩ = some (.slice none 0 0) := cell_at HO.out 3
      have qO4 : W6.cell? ⟨(N + 1), 4, none⟩ = some (.slice none 0 0) := cell_at HO.out 4
      have qO5 : W6.cell? ⟨(N + 1), 5, none⟩ = some (.slice none 0 0) := cell_at HO.out 5
      have qO6 : W6.cell? ⟨(N + 1), 6, none⟩ = some (.slice none 0 0) := cell_at HO.out 6
      have qOz : ∀ j, W6.frozen? ⟨(N + 1), j, none⟩ = false := fun j => free_at HO.out j
      have qOl : (N + 1) < W6.heap.size := HO.out.lt
      go_wp2_with fail
      clear qO0 qO1 qO2 qO3 qO4 qO5 qO6 qOz qOl
      obtain ⟨LS, hLS⟩ : ∃ L : List Value, L = [.int .i64 s.term, .int .i64 s.stamp, .int .i64 s.next, .slice b8 m8 k8, .slice b2 m2 k2, .slice b3 m3 k3, .slice b4 m4 k4] := ⟨_, rfl⟩
      obtain ⟨W7, hWS⟩ : ∃ WS, WS = W6.setCells (N + 1) 0 LS := ⟨_, rfl⟩
      have hch := hWS
      rw [hLS] at hch
      simp only [World.setCells, Nat.zero_add, Nat.reduceAdd] at hch
      rw [← hch]
      clear hch
      have hkS := stC_blk HO.out LS (by rw [hLS]; rfl)
      have hfS := stC_fr (N + 1) LS 0 W6
      rw [← hWS] at hkS hfS
      rw [hLS] at hkS
      replace HB := Lib.hid (HB.out.trans (hfS.below HB.out.size (by have := HLON.out; simp; try omega)))
      replace HT := Lib.hid (HT0.out.below HB.out)
      replace HL := Lib.hid (HL0.out.below HB.out)
      replace HS := Lib.hid (HS0.out.below HB.out)
      replace HD := Lib.hid (HD0.out.below HB.out)
      replace HR := Lib.hid (show Blk W7 N #[.int .i64 s.term, .int .i64 s.stamp, .int .i64 s.next, .slice ta m1 tc, .slice la ln lc, .slice sa sn sc, .slice da dn dc] 27 from (hfS.block _ HR.out.lt (by have hx0 := HXU9HR.out; have hx1 := HXU9HO.out; simp; try omega)).trans HR.out)
      replace O2 := Lib.hid (O2.out.fr hfS (by have := FO2.out; omega))
      replace O3 := Lib.hid (O3.out.fr hfS (by have := FO3.out; omega))
      replace O4 := Lib.hid (O4.out.fr hfS (by have := FO4.out; omega))
      replace HQ := Lib.hid (HQ.out.fr HO.out hfS)
      replace HO := Lib.hid (show Blk W7 (N + 1) #[.int .i64 s.term, .int .i64 s.stamp, .int .i64 s.next, .slice b8 m8 k8, .slice b2 m2 k2, .slice b3 m3 k3, .slice b4 m4 k4] 27 from hkS)
      clear hWS hLS hkS hfS
      have qO0 : W7.cell? ⟨(N + 1), 0, none⟩ = some (.int .i64 s.term) := cell_at HO.out 0
      have qO1 : W7.cell? ⟨(N + 1), 1, none⟩ = some (.int .i64 s.stamp) := cell_at HO.out 1
      have qO2 : W7.cell? ⟨(N + 1), 2, none⟩ = some (.int .i64 s.next) := cell_at HO.out 2
      have qO3 : W7.cell? ⟨(N + 1), 3, none⟩ = some (.slice b8 m8 k8) := cell_at HO.out 3
      have qO4 : W7.cell? ⟨(N + 1), 4, none⟩ = some (.slice b2 m2 k2) := cell_at HO.out 4
      have qO5 : W7.cell? ⟨(N + 1), 5, none⟩ = some (.slice b3 m3 k3) := cell_at HO.out 5
      have qO6 : W7.cell? ⟨(N + 1), 6, none⟩ = some (.slice b4 m4 k4) := cell_at HO.out 6
      have qOz : ∀ j, W7.frozen? ⟨(N + 1), j, none⟩ = false := fun j => free_at HO.out j
      have qOl : (N + 1) < W7.heap.size := HO.out.lt
      exact bodyPost_ret (v := .agg #[.int .i64 s.term, .int .i64 s.stamp, .int .i64 s.next, .slice b8 m8 k8, .slice b2 m2 k2, .slice b3 m3 k3, .slice b4 m4 k4]) (by simp [results, Try.results19, go_sem, qO0, qO1, qO2, qO3, qO4, qO5, qO6]) rfl ⟨_, rfl, ⟨_, _, _, _, rfl, HQ.out, O2.out.v, O3.out.v, O4.out.v⟩, HB.out⟩
end Go.Proofs.Ytfgnjpdlchimpaa
namespace Go.Proofs.Ytfgnjpdlchimpaa
open Go.RowKit
set_option linter.unusedSimpArgs false
set_option linter.unusedVariables false

set_option maxRecDepth 100000 in
set_option maxHeartbeats 16000000 in
theorem ledgerCredits_walk (v : Value) (s : StE) (ticks : Int) (w : World) (h : SV w v s) :
    Calls Try.prog 4 #[v, .int .i64 ticks] w fun e w' => e = .returned (.bool true) ∧ Below w.heap.size w w' := by
  obtain ⟨vt, vl, vs, vd, rfl, ht, hl, hs, hd⟩ := h
  obtain ⟨ta, tn, tc, rfl, Htn, tn1, tn2⟩ := ht.sh
  obtain ⟨la, ln, lc, rfl, Hln, ln1, ln2⟩ := hl.sh
  obtain ⟨sa, sn, sc, rfl, Hsn, sn1, sn2⟩ := hs.sh
  obtain ⟨da, dn, dc, rfl, Hdn, dn1, dn2⟩ := hd.sh
  have HT0 := Lib.hid ht
  have HL0 := Lib.hid hl
  have HS0 := Lib.hid hs
  have HD0 := Lib.hid hd
  have HT := Lib.hid ht
  have HL := Lib.hid hl
  have HS := Lib.hid hs
  have HD := Lib.hid hd
  clear ht hl hs hd
  have HSV : Hid (∀ W, TV W (.slice ta tn tc) s.ts → LeV W (.slice la ln lc) s.ls → SeV W (.slice sa sn sc) s.ss → DkV W (.slice da dn dc) s.ds → SV W (.agg #[.int .i64 s.term, .int .i64 s.stamp, .int .i64 s.next, .slice ta tn tc, .slice la ln lc, .slice sa sn sc, .slice da dn dc]) s) := Lib.hid (fun W h1 h2 h3 h4 => ⟨_, _, _, _, rfl, h1, h2, h3, h4⟩)
  have HGT := Lib.hid (fun W v (h : SV W v s) => greatS_any v s W h)
  obtain ⟨G, hG⟩ : ∃ G, G = (decide (60 < s.ts.length) || decide (100 < s.ls.length) || decide (60 < s.ss.length) || decide (60 < s.ds.length)) := ⟨_, rfl⟩
  rw [← hG] at HGT
  have HFEW : Hid (G = false → fewS s) := Lib.hid (fun h => by
    rw [h] at hG
    have hG := hG.symm
    simp only [Bool.or_eq_false_iff, decide_eq_false_iff_not] at hG
    unfold fewS
    omega)
  have HWK := Lib.hid wakes_any
  clear hG
  have HB : Hid (Below w.heap.size w w) := Lib.hid (Below.refl _ _)
  go_enter Try.func4, Try.ntmps4
  go_upto_region 1 with fail
  obtain ⟨N, hN⟩ : ∃ n0, n0 = w.heap.size := ⟨_, rfl⟩
  have HLON : Hid (w.heap.size ≤ N) := Lib.hid (by have := HB.out.size; omega)
  obtain ⟨W1, hA0⟩ : ∃ W0, W0 = w.alloc (.cells #[.int .i64 s.term, .int .i64 s.stamp, .int .i64 s.next, .slice ta tn tc, .slice la ln lc, .slice sa sn sc, .slice da dn dc] 27) := ⟨_, rfl⟩
  have hB : Below w.heap.size w W1 := by rw [hA0]; exact (Below.refl _ _).alloc (Nat.le_refl _) _
  have hS0 : W1.heap.size = N + 1 := by rw [hA0]; simp [← hN]
  have HR := Lib.hid (show Blk W1 N #[.int .i64 s.term, .int .i64 s.stamp, .int .i64 s.next, .slice ta tn tc, .slice la ln lc, .slice sa sn sc, .slice da dn dc] 27 by rw [hA0, hN]; exact blk_new _ _ _)
  replace HB := Lib.hid (HB.out.trans (hB.mono HB.out.size))
  replace HT := Lib.hid (HT0.out.below HB.out)
  replace HL := Lib.hid (HL0.out.below HB.out)
  replace HS := Lib.hid (HS0.out.below HB.out)
  replace HD := Lib.hid (HD0.out.below HB.out)
  clear hB
  have HSN := Lib.hid hS0
  rw [← hN, ← hA0]
  clear hA0 hN hS0
  have qR0 : W1.cell? ⟨N, 0, none⟩ = some (.int .i64 s.term) := cell_at HR.out 0
  have qR1 : W1.cell? ⟨N, 1, none⟩ = some (.int .i64 s.stamp) := cell_at HR.out 1
  have qR2 : W1.cell? ⟨N, 2, none⟩ = some (.int .i64 s.next) := cell_at HR.out 2
  have qR3 : W1.cell? ⟨N, 3, none⟩ = some (.slice ta tn tc) := cell_at HR.out 3
  have qR4 : W1.cell? ⟨N, 4, none⟩ = some (.slice la ln lc) := cell_at HR.out 4
  have qR5 : W1.cell? ⟨N, 5, none⟩ = some (.slice sa sn sc) := cell_at HR.out 5
  have qR6 : W1.cell? ⟨N, 6, none⟩ = some (.slice da dn dc) := cell_at HR.out 6
  have qRz : ∀ j, W1.frozen? ⟨N, j, none⟩ = false := fun j => free_at HR.out j
  have qRl : N < W1.heap.size := HR.out.lt
  go_wp2_with fail
  clear qR0 qR1 qR2 qR3 qR4 qR5 qR6 qRz qRl
  refine wp_region_held_drew (S := fun X => (X.cell? ⟨N, 0, none⟩ = some (.int .i64 s.term) ∧ X.cell? ⟨N, 1, none⟩ = some (.int .i64 s.stamp) ∧ X.cell? ⟨N, 2, none⟩ = some (.int .i64 s.next) ∧ X.cell? ⟨N, 3, none⟩ = some (.slice ta tn tc) ∧ X.cell? ⟨N, 4, none⟩ = some (.slice la ln lc) ∧ X.cell? ⟨N, 5, none⟩ = some (.slice sa sn sc) ∧ X.cell? ⟨N, 6, none⟩ = some (.slice da dn dc) ∧ N < X.heap.size)) (by kernel_rfl) ⟨cell_at HR.out 0, cell_at HR.out 1, cell_at HR.out 2, cell_at HR.out 3, cell_at HR.out 4, cell_at HR.out 5, cell_at HR.out 6, HR.out.lt⟩ (fun hHeld => ?_)
  ((refine wpAnyH_take (i := 0) (v := ?_) (by (simp only [List.getElem?_toArray, List.getElem?_cons_succ, List.getElem?_cons_zero]); rfl) (by kernel_rfl) (by kernel_rfl) (by kernel_rfl) (by exact fun _ _ _ h => h) (Or.inl ⟨by rfl, ?_⟩) (by assumption) ?_); rotate_left; focus (intro wS hSw; (try dsimp only at hSw); go_simp; first | done | with_reducible rfl); try simp only [Act.put, List.setIfInBounds_toArray, List.set_cons_zero, List.set_cons_succ])
  refine wpAnyH_ready (rs := [1]) (by kernel_rfl) (by simp) ?_
  refine AllReadyH.cons (by (simp only [List.getElem?_toArray, List.getElem?_cons_succ, List.getElem?_cons_zero]); rfl) (fun K hK => ?_) AllReadyH.nil
  go_simp
  go_fit (HGT.out _ _ (HSV.out _ (HT0.out.below HB.out.drew) (HL0.out.below HB.out.drew) (HS0.out.below HB.out.drew) (HD0.out.below HB.out.drew)))
  rintro e W2 ⟨rfl, hB⟩
  replace hB := below_undrew hB
  replace HB := Lib.hid (HB.out.trans (hB.mono HB.out.size))
  replace HT := Lib.hid (HT0.out.below HB.out)
  replace HL := Lib.hid (HL0.out.below HB.out)
  replace HS := Lib.hid (HS0.out.below HB.out)
  replace HD := Lib.hid (HD0.out.below HB.out)
  replace HR := Lib.hid (HR.out.step hB)
  go_wp2_with fail
  refine hK.out _ _ ⟨cell_at HR.out 0, cell_at HR.out 1, cell_at HR.out 2, cell_at HR.out 3, cell_at HR.out 4, cell_at HR.out 5, cell_at HR.out 6, HR.out.lt⟩ (fun hHeld => ?_)
  clear hK K hB
  try simp only [Act.put, List.setIfInBounds_toArray, List.set_cons_zero, List.set_cons_succ]
  ((refine wpAnyH_take (i := 2) (v := ?_) (by (simp only [List.getElem?_toArray, List.getElem?_cons_succ, List.getElem?_cons_zero]); rfl) (by kernel_rfl) (by kernel_rfl) (by kernel_rfl) (by exact fun _ _ _ h => h) (Or.inl ⟨by rfl, ?_⟩) (by assumption) ?_); rotate_left; focus (intro wS hSw; (try dsimp only at hSw); go_simp; first | done | with_reducible rfl); try simp only [Act.put, List.setIfInBounds_toArray, List.set_cons_zero, List.set_cons_succ])
  cases G
  · skip
    have hfew := HFEW.out rfl
    have HCP := Lib.hid (fun W v (h : SV W v s) => credit_led v s ticks W h hfew)
    have HCD := Lib.hid (fun W v (h : SV W v s) => rcredit_led v s ticks W h hfew)
    obtain ⟨s2, hs2⟩ : ∃ t, t = credS s ticks := ⟨_, rfl⟩
    rw [← hs2] at HCP HCD
    clear hfew hs2
    ((refine wpAnyH_take (i := 3) (v := undef) (by (simp only [List.getElem?_toArray, List.getElem?_cons_succ, List.getElem?_cons_zero]); rfl) (by kernel_rfl) (by kernel_rfl) (by kernel_rfl) (by exact fun _ _ _ h => h) (Or.inr ⟨by (go_simp; try (intro hh; cases hh)), rfl⟩) (by assumption) ?_); try simp only [Act.put, List.setIfInBounds_toArray, List.set_cons_zero, List.set_cons_succ])
    ((refine wpAnyH_take (i := 4) (v := ?_) (by (simp only [List.getElem?_toArray, List.getElem?_cons_succ, List.getElem?_cons_zero]); rfl) (by kernel_rfl) (by kernel_rfl) (by kernel_rfl) (by exact fun _ _ _ h => h) (Or.inl ⟨by rfl, ?_⟩) (by assumption) ?_); rotate_left; focus (intro wS hSw; (try dsimp only at hSw); go_simp; first | done | with_reducible rfl); try simp only [Act.put, List.setIfInBounds_toArray, List.set_cons_zero, List.set_cons_succ])
    ((refine wpAnyH_take (i := 5) (v := ?_) (by (simp only [List.getElem?_toArray, List.getElem?_cons_succ, List.getElem?_cons_zero]); rfl) (by kernel_rfl) (by kernel_rfl) (by kernel_rfl) (by exact fun _ _ _ h => h) (Or.inl ⟨by rfl, ?_⟩) (by assumption) ?_); rotate_left; focus (intro wS hSw; (try dsimp only at hSw); go_simp; first | done | with_reducible rfl); try simp only [Act.put, List.setIfInBounds_toArray, List.set_cons_zero, List.set_cons_succ])
    ((refine wpAnyH_take (i := 6) (v := ?_) (by (simp only [List.getElem?_toArray, List.getElem?_cons_succ, List.getElem?_cons_zero]); rfl) (by kernel_rfl) (by kernel_rfl) (by kernel_rfl) (by exact fun _ _ _ h => h) (Or.inl ⟨by (go_simp; try rfl), ?_⟩) (by assumption) ?_); rotate_left; focus (intro wS hSw; (try dsimp only at hSw); go_simp; first | done | with_reducible rfl); try simp only [Act.put, List.setIfInBounds_toArray, List.set_cons_zero, List.set_cons_succ])
    refine wpAnyH_ready (rs := [7]) (by kernel_rfl) (by simp) ?_
    refine AllReadyH.cons (by (simp only [List.getElem?_toArray, List.getElem?_cons_succ, List.getElem?_cons_zero]); rfl) (fun K hK => ?_) AllReadyH.nil
    go_simp
    go_fit (HGT.out _ _ (HSV.out _ HT.out HL.out HS.out HD.out))
    rintro e W3 ⟨rfl, hB⟩
    replace HB := Lib.hid (HB.out.trans (hB.mono HB.out.size))
    replace HT := Lib.hid (HT0.out.below HB.out)
    replace HL := Lib.hid (HL0.out.below HB.out)
    replace HS := Lib.hid (HS0.out.below HB.out)
    replace HD := Lib.hid (HD0.out.below HB.out)
    replace HR := Lib.hid (HR.out.step hB)
    go_wp2_with fail
    refine hK.out _ _ ⟨cell_at HR.out 0, cell_at HR.out 1, cell_at HR.out 2, cell_at HR.out 3, cell_at HR.out 4, cell_at HR.out 5, cell_at HR.out 6, HR.out.lt⟩ (fun hHeld => ?_)
    clear hK K hB
    try simp only [Act.put, List.setIfInBounds_toArray, List.set_cons_zero, List.set_cons_succ]
    ((refine wpAnyH_take (i := 8) (v := ?_) (by (simp only [List.getElem?_toArray, List.getElem?_cons_succ, List.getElem?_cons_zero]); rfl) (by kernel_rfl) (by kernel_rfl) (by kernel_rfl) (by exact fun _ _ _ h => h) (Or.inl ⟨by (go_simp; try rfl), ?_⟩) (by assumption) ?_); rotate_left; focus (intro wS hSw; (try dsimp only at hSw); go_simp; first | done | with_reducible rfl); try simp only [Act.put, List.setIfInBounds_toArray, List.set_cons_zero, List.set_cons_succ])
    ((refine wpAnyH_take (i := 9) (v := ?_) (by (simp only [List.getElem?_toArray, List.getElem?_cons_succ, List.getElem?_cons_zero]); rfl) (by kernel_rfl) (by kernel_rfl) (by kernel_rfl) (by exact fun _ _ _ h => h) (Or.inl ⟨by (go_simp; try rfl), ?_⟩) (by assumption) ?_); rotate_left; focus (intro wS hSw; (try dsimp only at hSw); go_simp; first | done | with_reducible rfl); try simp only [Act.put, List.setIfInBounds_toArray, List.set_cons_zero, List.set_cons_succ])
    ((refine wpAnyH_take (i := 10) (v := ?_) (by (simp only [List.getElem?_toArray, List.getElem?_cons_succ, List.getElem?_cons_zero]); rfl) (by kernel_rfl) (by kernel_rfl) (by kernel_rfl) (by exact fun _ _ _ h => h) (Or.inl ⟨by (go_simp; try rfl), ?_⟩) (by assumption) ?_); rotate_left; focus (intro wS hSw; (try dsimp only at hSw); go_simp; first | done | with_reducible rfl); try simp only [Act.put, List.setIfInBounds_toArray, List.set_cons_zero, List.set_cons_succ])
    ((refine wpAnyH_take (i := 11) (v := ?_) (by (simp only [List.getElem?_toArray, List.getElem?_cons_succ, List.getElem?_cons_zero]); rfl) (by kernel_rfl) (by kernel_rfl) (by kernel_rfl) (by exact fun _ _ _ h => h) (Or.inl ⟨by (go_simp; try rfl), ?_⟩) (by assumption) ?_); rotate_left; focus (intro wS hSw; (try dsimp only at hSw); go_simp; first | done | with_reducible rfl); try simp only [Act.put, List.setIfInBounds_toArray, List.set_cons_zero, List.set_cons_succ])
    ((refine wpAnyH_take (i := 13) (v := ?_) (by (simp only [List.getElem?_toArray, List.getElem?_cons_succ, List.getElem?_cons_zero]); rfl) (by kernel_rfl) (by kernel_rfl) (by kernel_rfl) (by exact fun _ _ _ h => h) (Or.inl ⟨by (go_simp; try rfl), ?_⟩) (by assumption) ?_); rotate_left; focus (intro wS hSw; (try dsimp only at hSw); go_simp; first | done | with_reducible rfl); try simp only [Act.put, List.setIfInBounds_toArray, List.set_cons_zero, List.set_cons_succ])
    ((refine wpAnyH_take (i := 14) (v := ?_) (by (simp only [List.getElem?_toArray, List.getElem?_cons_succ, List.getElem?_cons_zero]); rfl) (by kernel_rfl) (by kernel_rfl) (by kernel_rfl) (by exact fun _ _ _ h => h) (Or.inl ⟨by (go_simp; try rfl), ?_⟩) (by assumption) ?_); rotate_left; focus (intro wS hSw; (try dsimp only at hSw); go_simp; first | done | with_reducible rfl); try simp only [Act.put, List.setIfInBounds_toArray, List.set_cons_zero, List.set_cons_succ])
    refine wpAnyH_ready (rs := [12]) (by kernel_rfl) (by simp) ?_
    refine AllReadyH.cons (by (simp only [List.getElem?_toArray, List.getElem?_cons_succ, List.getElem?_cons_zero]); rfl) (fun K hK => ?_) AllReadyH.nil
    go_simp
    go_fit (HCP.out _ _ (HSV.out _ HT.out HL.out HS.out HD.out))
    rintro e W4 ⟨va, rfl, hva, hB⟩
    replace HB := Lib.hid (HB.out.trans (hB.mono HB.out.size))
    replace HT := Lib.hid (HT0.out.below HB.out)
    replace HL := Lib.hid (HL0.out.below HB.out)
    replace HS := Lib.hid (HS0.out.below HB.out)
    replace HD := Lib.hid (HD0.out.below HB.out)
    replace HR := Lib.hid (HR.out.step hB)
    have HVA := Lib.hid hva
    clear hva
    go_wp2_with fail
    refine hK.out _ _ ⟨cell_at HR.out 0, cell_at HR.out 1, cell_at HR.out 2, cell_at HR.out 3, cell_at HR.out 4, cell_at HR.out 5, cell_at HR.out 6, HR.out.lt⟩ (fun hHeld => ?_)
    clear hK K hB
    try simp only [Act.put, List.setIfInBounds_toArray, List.set_cons_zero, List.set_cons_succ]
    refine wpAnyH_ready (rs := [15]) (by kernel_rfl) (by simp) ?_
    refine AllReadyH.cons (by (simp only [List.getElem?_toArray, List.getElem?_cons_succ, List.getElem?_cons_zero]); rfl) (fun K hK => ?_) AllReadyH.nil
    go_simp
    go_fit (HCD.out _ _ (HSV.out _ HT.out HL.out HS.out HD.out))
    rintro e W5 ⟨vb, rfl, hvb, hB⟩
    replace HB := Lib.hid (HB.out.trans (hB.mono HB.out.size))
    replace HT := Lib.hid (HT0.out.below HB.out)
    replace HL := Lib.hid (HL0.out.below HB.out)
    replace HS := Lib.hid (HS0.out.below HB.out)
    replace HD := Lib.hid (HD0.out.below HB.out)
    replace HR := Lib.hid (HR.out.step hB)
    replace HVA := Lib.hid (HVA.out.below hB)
    have HVB := Lib.hid hvb
    clear hvb
    go_wp2_with fail
    refine hK.out _ _ ⟨cell_at HR.out 0, cell_at HR.out 1, cell_at HR.out 2, cell_at HR.out 3, cell_at HR.out 4, cell_at HR.out 5, cell_at HR.out 6, HR.out.lt⟩ (fun hHeld => ?_)
    clear hK K hB
    try simp only [Act.put, List.setIfInBounds_toArray, List.set_cons_zero, List.set_cons_succ]
    refine wpAnyH_ready (rs := [16]) (by kernel_rfl) (by simp) ?_
    refine AllReadyH.cons (by (simp only [List.getElem?_toArray, List.getElem?_cons_succ, List.getElem?_cons_zero]); rfl) (fun K hK => ?_) AllReadyH.nil
    go_simp
    go_fit (sameS_any _ _ s2 _ HVA.out HVB.out)
    rintro e W6 ⟨rfl, hB⟩
    replace HB := Lib.hid (HB.out.trans (hB.mono HB.out.size))
    replace HT := Lib.hid (HT0.out.below HB.out)
    replace HL := Lib.hid (HL0.out.below HB.out)
    replace HS := Lib.hid (HS0.out.below HB.out)
    replace HD := Lib.hid (HD0.out.below HB.out)
    replace HR := Lib.hid (HR.out.step hB)
    replace HVA := Lib.hid (HVA.out.below hB)
    replace HVB := Lib.hid (HVB.out.below hB)
    go_wp2_with fail
    refine hK.out _ _ ⟨cell_at HR.out 0, cell_at HR.out 1, cell_at HR.out 2, cell_at HR.out 3, cell_at HR.out 4, cell_at HR.out 5, cell_at HR.out 6, HR.out.lt⟩ (fun hHeld => ?_)
    clear hK K hB
    try simp only [Act.put, List.setIfInBounds_toArray, List.set_cons_zero, List.set_cons_succ]
    ((refine wpAnyH_take (i := 17) (v := ?_) (by (simp only [List.getElem?_toArray, List.getElem?_cons_succ, List.getElem?_cons_zero]); rfl) (by kernel_rfl) (by kernel_rfl) (by kernel_rfl) (by exact fun _ _ _ h => h) (Or.inl ⟨by (go_simp; try rfl), ?_⟩) (by assumption) ?_); rotate_left; focus (intro wS hSw; (try dsimp only at hSw); go_simp; first | done | with_reducible rfl); try simp only [Act.put, List.setIfInBounds_toArray, List.set_cons_zero, List.set_cons_succ])
    ((refine wpAnyH_take (i := 18) (v := ?_) (by (simp only [List.getElem?_toArray, List.getElem?_cons_succ, List.getElem?_cons_zero]); rfl) (by kernel_rfl) (by kernel_rfl) (by kernel_rfl) (by exact fun _ _ _ h => h) (Or.inl ⟨by (go_simp; try rfl), ?_⟩) (by assumption) ?_); rotate_left; focus (intro wS hSw; (try dsimp only at hSw); go_simp; first | done | with_reducible rfl); try simp only [Act.put, List.setIfInBounds_toArray, List.set_cons_zero, List.set_cons_succ])
    refine wpAnyH_ready (rs := [19]) (by kernel_rfl) (by simp) ?_
    refine AllReadyH.cons (by (simp only [List.getElem?_toArray, List.getElem?_cons_succ, List.getElem?_cons_zero]); rfl) (fun K hK => ?_) AllReadyH.nil
    go_simp
    go_fit (HWK.out _)
    rintro e W7 ⟨rfl, hB⟩
    replace HB := Lib.hid (HB.out.trans (hB.mono HB.out.size))
    replace HT := Lib.hid (HT0.out.below HB.out)
    replace HL := Lib.hid (HL0.out.below HB.out)
    replace HS := Lib.hid (HS0.out.below HB.out)
    replace HD := Lib.hid (HD0.out.below HB.out)
    replace HR := Lib.hid (HR.out.step hB)
    replace HVA := Lib.hid (HVA.out.below hB)
    replace HVB := Lib.hid (HVB.out.below hB)
    go_wp2_with fail
    refine hK.out _ _ ⟨cell_at HR.out 0, cell_at HR.out 1, cell_at HR.out 2, cell_at HR.out 3, cell_at HR.out 4, cell_at HR.out 5, cell_at HR.out 6, HR.out.lt⟩ (fun hHeld => ?_)
    clear hK K hB
    try simp only [Act.put, List.setIfInBounds_toArray, List.set_cons_zero, List.set_cons_succ]
    ((refine wpAnyH_take (i := 20) (v := ?_) (by (simp only [List.getElem?_toArray, List.getElem?_cons_succ, List.getElem?_cons_zero]); rfl) (by kernel_rfl) (by kernel_rfl) (by kernel_rfl) (by exact fun _ _ _ h => h) (Or.inl ⟨by (go_simp; try rfl), ?_⟩) (by assumption) ?_); rotate_left; focus (intro wS hSw; (try dsimp only at hSw); go_simp; first | done | with_reducible rfl); try simp only [Act.put, List.setIfInBounds_toArray, List.set_cons_zero, List.set_cons_succ])
    ((refine wpAnyH_take (i := 21) (v := ?_) (by (simp only [List.getElem?_toArray, List.getElem?_cons_succ, List.getElem?_cons_zero]); rfl) (by kernel_rfl) (by kernel_rfl) (by kernel_rfl) (by exact fun _ _ _ h => h) (Or.inl ⟨by rfl, ?_⟩) (by assumption) ?_); rotate_left; focus (intro wS hSw; (try dsimp only at hSw); go_simp; first | done | with_reducible rfl); try simp only [Act.put, List.setIfInBounds_toArray, List.set_cons_zero, List.set_cons_succ])
    ((refine wpAnyH_take (i := 22) (v := ?_) (by (simp only [List.getElem?_toArray, List.getElem?_cons_succ, List.getElem?_cons_zero]); rfl) (by kernel_rfl) (by kernel_rfl) (by kernel_rfl) (by exact fun _ _ _ h => h) (Or.inl ⟨by rfl, ?_⟩) (by assumption) ?_); rotate_left; focus (intro wS hSw; (try dsimp only at hSw); go_simp; first | done | with_reducible rfl); try simp only [Act.put, List.setIfInBounds_toArray, List.set_cons_zero, List.set_cons_succ])
    refine wpAnyH_done (by kernel_rfl) ?_ _
    try simp only [Act.put, List.setIfInBounds_toArray, List.set_cons_zero, List.set_cons_succ]
    go_wp2_with fail
    go_ret
    exact ⟨rfl, HB.out⟩
  · skip
    refine wpAnyH_ready (rs := [3]) (by kernel_rfl) (by simp) ?_
    refine AllReadyH.cons (by (simp only [List.getElem?_toArray, List.getElem?_cons_succ, List.getElem?_cons_zero]); rfl) (fun K hK => ?_) AllReadyH.nil
    go_simp
    go_fit (HWK.out _)
    rintro e W3 ⟨rfl, hB⟩
    replace HB := Lib.hid (HB.out.trans (hB.mono HB.out.size))
    replace HT := Lib.hid (HT0.out.below HB.out)
    replace HL := Lib.hid (HL0.out.below HB.out)
    replace HS := Lib.hid (HS0.out.below HB.out)
    replace HD := Lib.hid (HD0.out.below HB.out)
    replace HR := Lib.hid (HR.out.step hB)
    go_wp2_with fail
    refine hK.out _ _ ⟨cell_at HR.out 0, cell_at HR.out 1, cell_at HR.out 2, cell_at HR.out 3, cell_at HR.out 4, cell_at HR.out 5, cell_at HR.out 6, HR.out.lt⟩ (fun hHeld => ?_)
    clear hK K hB
    try simp only [Act.put, List.setIfInBounds_toArray, List.set_cons_zero, List.set_cons_succ]
    ((refine wpAnyH_take (i := 4) (v := ?_) (by (simp only [List.getElem?_toArray, List.getElem?_cons_succ, List.getElem?_cons_zero]); rfl) (by kernel_rfl) (by kernel_rfl) (by kernel_rfl) (by exact fun _ _ _ h => h) (Or.inl ⟨by rfl, ?_⟩) (by assumption) ?_); rotate_left; focus (intro wS hSw; (try dsimp only at hSw); go_simp; first | done | with_reducible rfl); try simp only [Act.put, List.setIfInBounds_toArray, List.set_cons_zero, List.set_cons_succ])
    ((refine wpAnyH_take (i := 5) (v := ?_) (by (simp only [List.getElem?_toArray, List.getElem?_cons_succ, List.getElem?_cons_zero]); rfl) (by kernel_rfl) (by kernel_rfl) (by kernel_rfl) (by exact fun _ _ _ h => h) (Or.inl ⟨by rfl, ?_⟩) (by assumption) ?_); rotate_left; focus (intro wS hSw; (try dsimp only at hSw); go_simp; first | done | with_reducible rfl); try simp only [Act.put, List.setIfInBounds_toArray, List.set_cons_zero, List.set_cons_succ])
    ((refine wpAnyH_take (i := 6) (v := undef) (by (simp only [List.getElem?_toArray, List.getElem?_cons_succ, List.getElem?_cons_zero]); rfl) (by kernel_rfl) (by kernel_rfl) (by kernel_rfl) (by exact fun _ _ _ h => h) (Or.inr ⟨by (go_simp; try (intro hh; cases hh)), rfl⟩) (by assumption) ?_); try simp only [Act.put, List.setIfInBounds_toArray, List.set_cons_zero, List.set_cons_succ])
    ((refine wpAnyH_take (i := 7) (v := undef) (by (simp only [List.getElem?_toArray, List.getElem?_cons_succ, List.getElem?_cons_zero]); rfl) (by kernel_rfl) (by kernel_rfl) (by kernel_rfl) (by exact fun _ _ _ h => h) (Or.inr ⟨by (go_simp; try (intro hh; cases hh)), rfl⟩) (by assumption) ?_); try simp only [Act.put, List.setIfInBounds_toArray, List.set_cons_zero, List.set_cons_succ])
    ((refine wpAnyH_take (i := 8) (v := undef) (by (simp only [List.getElem?_toArray, List.getElem?_cons_succ, List.getElem?_cons_zero]); rfl) (by kernel_rfl) (by kernel_rfl) (by kernel_rfl) (by exact fun _ _ _ h => h) (Or.inr ⟨by (go_simp; try (intro hh; cases hh)), rfl⟩) (by assumption) ?_); try simp only [Act.put, List.setIfInBounds_toArray, List.set_cons_zero, List.set_cons_succ])
    ((refine wpAnyH_take (i := 9) (v := undef) (by (simp only [List.getElem?_toArray, List.getElem?_cons_succ, List.getElem?_cons_zero]); rfl) (by kernel_rfl) (by kernel_rfl) (by kernel_rfl) (by exact fun _ _ _ h => h) (Or.inr ⟨by (go_simp; try (intro hh; cases hh)), rfl⟩) (by assumption) ?_); try simp only [Act.put, List.setIfInBounds_toArray, List.set_cons_zero, List.set_cons_succ])
    ((refine wpAnyH_take (i := 10) (v := undef) (by (simp only [List.getElem?_toArray, List.getElem?_cons_succ, List.getElem?_cons_zero]); rfl) (by kernel_rfl) (by kernel_rfl) (by kernel_rfl) (by exact fun _ _ _ h => h) (Or.inr ⟨by (go_simp; try (intro hh; cases hh)), rfl⟩) (by assumption) ?_); try simp only [Act.put, List.setIfInBounds_toArray, List.set_cons_zero, List.set_cons_succ])
    ((refine wpAnyH_take (i := 11) (v := undef) (by (simp only [List.getElem?_toArray, List.getElem?_cons_succ, List.getElem?_cons_zero]); rfl) (by kernel_rfl) (by kernel_rfl) (by kernel_rfl) (by exact fun _ _ _ h => h) (Or.inr ⟨by (go_simp; try (intro hh; cases hh)), rfl⟩) (by assumption) ?_); try simp only [Act.put, List.setIfInBounds_toArray, List.set_cons_zero, List.set_cons_succ])
    ((refine wpAnyH_take (i := 12) (v := undef) (by (simp only [List.getElem?_toArray, List.getElem?_cons_succ, List.getElem?_cons_zero]); rfl) (by kernel_rfl) (by kernel_rfl) (by kernel_rfl) (by exact fun _ _ _ h => h) (Or.inr ⟨by (go_simp; try (intro hh; cases hh)), rfl⟩) (by assumption) ?_); try simp only [Act.put, List.setIfInBounds_toArray, List.set_cons_zero, List.set_cons_succ])
    ((refine wpAnyH_take (i := 13) (v := undef) (by (simp only [List.getElem?_toArray, List.getElem?_cons_succ, List.getElem?_cons_zero]); rfl) (by kernel_rfl) (by kernel_rfl) (by kernel_rfl) (by exact fun _ _ _ h => h) (Or.inr ⟨by (go_simp; try (intro hh; cases hh)), rfl⟩) (by assumption) ?_); try simp only [Act.put, List.setIfInBounds_toArray, List.set_cons_zero, List.set_cons_succ])
    ((refine wpAnyH_take (i := 14) (v := undef) (by (simp only [List.getElem?_toArray, List.getElem?_cons_succ, List.getElem?_cons_zero]); rfl) (by kernel_rfl) (by kernel_rfl) (by kernel_rfl) (by exact fun _ _ _ h => h) (Or.inr ⟨by (go_simp; try (intro hh; cases hh)), rfl⟩) (by assumption) ?_); try simp only [Act.put, List.setIfInBounds_toArray, List.set_cons_zero, List.set_cons_succ])
    ((refine wpAnyH_take (i := 15) (v := undef) (by (simp only [List.getElem?_toArray, List.getElem?_cons_succ, List.getElem?_cons_zero]); rfl) (by kernel_rfl) (by kernel_rfl) (by kernel_rfl) (by exact fun _ _ _ h => h) (Or.inr ⟨by (go_simp; try (intro hh; cases hh)), rfl⟩) (by assumption) ?_); try simp only [Act.put, List.setIfInBounds_toArray, List.set_cons_zero, List.set_cons_succ])
    ((refine wpAnyH_take (i := 16) (v := undef) (by (simp only [List.getElem?_toArray, List.getElem?_cons_succ, List.getElem?_cons_zero]); rfl) (by kernel_rfl) (by kernel_rfl) (by kernel_rfl) (by exact fun _ _ _ h => h) (Or.inr ⟨by (go_simp; try (intro hh; cases hh)), rfl⟩) (by assumption) ?_); try simp only [Act.put, List.setIfInBounds_toArray, List.set_cons_zero, List.set_cons_succ])
    ((refine wpAnyH_take (i := 17) (v := undef) (by (simp only [List.getElem?_toArray, List.getElem?_cons_succ, List.getElem?_cons_zero]); rfl) (by kernel_rfl) (by kernel_rfl) (by kernel_rfl) (by exact fun _ _ _ h => h) (Or.inr ⟨by (go_simp; try (intro hh; cases hh)), rfl⟩) (by assumption) ?_); try simp only [Act.put, List.setIfInBounds_toArray, List.set_cons_zero, List.set_cons_succ])
    ((refine wpAnyH_take (i := 18) (v := undef) (by (simp only [List.getElem?_toArray, List.getElem?_cons_succ, List.getElem?_cons_zero]); rfl) (by kernel_rfl) (by kernel_rfl) (by kernel_rfl) (by exact fun _ _ _ h => h) (Or.inr ⟨by (go_simp; try (intro hh; cases hh)), rfl⟩) (by assumption) ?_); try simp only [Act.put, List.setIfInBounds_toArray, List.set_cons_zero, List.set_cons_succ])
    ((refine wpAnyH_take (i := 19) (v := undef) (by (simp only [List.getElem?_toArray, List.getElem?_cons_succ, List.getElem?_cons_zero]); rfl) (by kernel_rfl) (by kernel_rfl) (by kernel_rfl) (by exact fun _ _ _ h => h) (Or.inr ⟨by (go_simp; try (intro hh; cases hh)), rfl⟩) (by assumption) ?_); try simp only [Act.put, List.setIfInBounds_toArray, List.set_cons_zero, List.set_cons_succ])
    ((refine wpAnyH_take (i := 20) (v := undef) (by (simp only [List.getElem?_toArray, List.getElem?_cons_succ, List.getElem?_cons_zero]); rfl) (by kernel_rfl) (by kernel_rfl) (by kernel_rfl) (by exact fun _ _ _ h => h) (Or.inr ⟨by (go_simp; try (intro hh; cases hh)), rfl⟩) (by assumption) ?_); try simp only [Act.put, List.setIfInBounds_toArray, List.set_cons_zero, List.set_cons_succ])
    ((refine wpAnyH_take (i := 21) (v := ?_) (by (simp only [List.getElem?_toArray, List.getElem?_cons_succ, List.getElem?_cons_zero]); rfl) (by kernel_rfl) (by kernel_rfl) (by kernel_rfl) (by exact fun _ _ _ h => h) (Or.inl ⟨by rfl, ?_⟩) (by assumption) ?_); rotate_left; focus (intro wS hSw; (try dsimp only at hSw); go_simp; first | done | with_reducible rfl); try simp only [Act.put, List.setIfInBounds_toArray, List.set_cons_zero, List.set_cons_succ])
    ((refine wpAnyH_take (i := 22) (v := ?_) (by (simp only [List.getElem?_toArray, List.getElem?_cons_succ, List.getElem?_cons_zero]); rfl) (by kernel_rfl) (by kernel_rfl) (by kernel_rfl) (by exact fun _ _ _ h => h) (Or.inl ⟨by rfl, ?_⟩) (by assumption) ?_); rotate_left; focus (intro wS hSw; (try dsimp only at hSw); go_simp; first | done | with_reducible rfl); try simp only [Act.put, List.setIfInBounds_toArray, List.set_cons_zero, List.set_cons_succ])
    refine wpAnyH_done (by kernel_rfl) ?_ _
    try simp only [Act.put, List.setIfInBounds_toArray, List.set_cons_zero, List.set_cons_succ]
    go_wp2_with fail
    go_ret
    exact ⟨rfl, HB.out⟩
theorem ledgerCredits_dt (x : Dt) (ticks : Int) (w : World) (hx : Fits Try.prog w 27 x)  : Calls Try.prog 4 #[.agg x.cells.toArray, .int .i64 ticks] w fun e w' => e = .returned (.bool true) ∧ Below w.heap.size w w' := by
  obtain ⟨s, l, e, h⟩ := state_inv hx
  rw [e]
  exact ledgerCredits_walk _ s ticks w h
end Go.Proofs.Ytfgnjpdlchimpaa
