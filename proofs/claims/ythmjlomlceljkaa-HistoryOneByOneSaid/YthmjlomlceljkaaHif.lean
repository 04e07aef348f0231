/-
  Is there an order: the program.
-/
import Derived.Test.YthmjlomlceljkaaHie
import Derived.Deep.DeepFit
import Derived.Lib.AppendZeros
import Derived.Deep.RegionLaw
import Derived.Deep.RegionWith
import Derived.Lib.EndianBits
import Derived.Deep.MidRow
namespace Go.Proofs.Ythmjlomlceljkaa
open Go.RowKit
set_option linter.unusedSimpArgs false
set_option linter.unusedVariables false

theorem run_makeMap0 {P : Program} {t k e : TypeId} (ht : P.underlying t = some (.map k e)) (w : World) : (Instr.makeMap t none).run P w = .ok (.map (some w.heap.size)) (w.alloc (.map #[] 0)) := by
  simp [Instr.makeMap, run_underlying ht, go_sem]
def fitsO (L : List CaE) : List Int := if ckB L = true then (sr L 0 []).getD [] else []
def fitsB (L : List CaE) : Bool := ckB L && (sr L 0 []).isSome
def fitsE (L : List CaE) : Int := if ckB L = true then 0 else 2
theorem good_none (L : List CaE) (D : Nat) : Good L (fun _ => false) D := fun d s _ h => by simp at h
theorem free_le : ∀ (n D : Nat), free D n ≤ n := fun n D => by
  unfold free
  have := List.length_filter_le (fun k => !D.testBit k) (List.range n)
  rwa [List.length_range] at this
set_option maxRecDepth 100000 in
set_option maxHeartbeats 16000000 in
theorem fits_any (v : Value) (L : List CaE) (w : World) (h : CaV w v L) : Calls Try.prog 27 #[v] w fun e w' => ∃ vo obo, e = .returned (.tuple #[vo, .bool (fitsB L), .int .i64 (fitsE L)]) ∧ InO w.heap.size w' vo obo (fitsO L) ∧ Below w.heap.size w w' := by
  obtain ⟨a, n, cap, rfl, HN, m1, m2⟩ := h.sh
  have HL0 := Lib.hid h
  have HL := Lib.hid h
  have HCK := Lib.hid (fun W (h : CaV W (.slice a n cap) L) => check_any _ L W h)
  obtain ⟨C, hC⟩ : ∃ C, C = ckB L := ⟨_, rfl⟩
  rw [← hC] at HCK
  have HC := Lib.hid hC
  clear hC h
  have HB : Hid (Below w.heap.size w w) := Lib.hid (Below.refl _ _)
  obtain ⟨O, hO⟩ : ∃ O, O = fitsO L := ⟨_, rfl⟩
  obtain ⟨B, hBB⟩ : ∃ O, O = fitsB L := ⟨_, rfl⟩
  obtain ⟨E, hE⟩ : ∃ O, O = fitsE L := ⟨_, rfl⟩
  rw [← hO, ← hBB, ← hE]
  unfold fitsO at hO
  unfold fitsB at hBB
  unfold fitsE at hE
  have HO := Lib.hid hO
  have HBB := Lib.hid hBB
  have HE := Lib.hid hE
  clear hO hBB hE
  go_enter Try.func27, Try.ntmps27
  go_upto_region 1 with fail
  obtain ⟨N, hN⟩ : ∃ n0, n0 = w.heap.size := ⟨_, rfl⟩
  have HLON : Hid (w.heap.size ≤ N) := Lib.hid (by have := HB.out.size; omega)
  obtain ⟨W1, hA0⟩ : ∃ W0, W0 = w.alloc (.cells #[.slice a n cap] 52) := ⟨_, rfl⟩
  have hB : Below w.heap.size w W1 := by rw [hA0]; exact (Below.refl _ _).alloc (Nat.le_refl _) _
  have hS0 : W1.heap.size = N + 1 := by rw [hA0]; simp [← hN]
  have HK := Lib.hid (show Blk W1 N #[.slice a n cap] 52 by rw [hA0, hN]; exact blk_new _ _ _)
  replace HB := Lib.hid (HB.out.trans (hB.mono HB.out.size))
  replace HL := Lib.hid (HL0.out.below HB.out)
  clear hB
  obtain ⟨W2, hA1⟩ : ∃ W0, W0 = W1.alloc (.cells #[.slice none 0 0] 33) := ⟨_, rfl⟩
  have hB : Below W1.heap.size W1 W2 := by rw [hA1]; exact (Below.refl _ _).alloc (Nat.le_refl _) _
  have hS1 : W2.heap.size = N + 2 := by rw [hA1]; simp [hS0]
  have HR := Lib.hid (show Blk W2 (N + 1) #[.slice none 0 0] 33 by rw [hA1, ← hS0]; exact blk_new _ _ _)
  replace HB := Lib.hid (HB.out.trans (hB.mono HB.out.size))
  replace HL := Lib.hid (HL0.out.below HB.out)
  replace HK := Lib.hid (HK.out.step hB)
  clear hB
  have HSN := Lib.hid hS1
  rw [← hN, ← hA0, ← hA1]
  clear hA1 hA0 hN hS0 hS1
  have qK0 : W2.cell? ⟨N, 0, none⟩ = some (.slice a n cap) := cell_at HK.out 0
  have qKz : ∀ j, W2.frozen? ⟨N, j, none⟩ = false := fun j => free_at HK.out j
  have qKl : N < W2.heap.size := HK.out.lt
  have HX9 : Hid (N + 1 < W2.heap.size) := Lib.hid HR.out.lt
  go_wp2_with fail
  go_at_call 23
  go_fit (HCK.out _ HL.out)
  rintro e W3 ⟨rfl, hB⟩
  clear qK0 qKz qKl
  replace HB := Lib.hid (HB.out.trans (hB.mono HB.out.size))
  replace HL := Lib.hid (HL0.out.below HB.out)
  replace HK := Lib.hid (HK.out.step hB)
  replace HR := Lib.hid (HR.out.step hB)
  clear hB
  replace HX9 : Hid (N + 1 < W3.heap.size) := Lib.hid HR.out.lt
  cases C
  · skip
    rw [← HC.out] at HO HBB HE
    have q1 := HO.out
    have q2 := HBB.out
    have q3 := HE.out
    rw [Bool.false_and] at q2
    rw [if_neg (by decide)] at q1 q3
    subst q1
    subst q2
    subst q3
    have qR0 : W3.cell? ⟨(N + 1), 0, none⟩ = some (.slice none 0 0) := cell_at HR.out 0
    have qRz : ∀ j, W3.frozen? ⟨(N + 1), j, none⟩ = false := fun j => free_at HR.out j
    have qRl : (N + 1) < W3.heap.size := HR.out.lt
    go_wp2_with fail
    clear qR0 qRz qRl
    obtain ⟨W4, hWS⟩ : ∃ WS, WS = W3.setCell ⟨(N + 1), 0, none⟩ (.slice none 0 0) := ⟨_, rfl⟩
    rw [← hWS]
    have hfS : Fr [(N + 1)] W3 W4 := by rw [hWS]; exact (Fr.refl _ _).setCell _ (.inl (by simp)) _
    have hkS : Blk W4 (N + 1) #[.slice none 0 0] 33 := by rw [hWS]; exact HR.out.set 0 _
    replace HB := Lib.hid (HB.out.trans (hfS.below HB.out.size (by have := HLON.out; simp; try omega)))
    replace HL := Lib.hid (HL0.out.below HB.out)
    replace HK := Lib.hid (show Blk W4 N #[.slice a n cap] 52 from (hfS.block _ HK.out.lt (by simp; try omega)).trans HK.out)
    replace HR := Lib.hid (show Blk W4 (N + 1) #[.slice none 0 0] 33 from hkS)
    clear hWS hfS hkS
    have qR0 : W4.cell? ⟨(N + 1), 0, none⟩ = some (.slice none 0 0) := cell_at HR.out 0
    have qRz : ∀ j, W4.frozen? ⟨(N + 1), j, none⟩ = false := fun j => free_at HR.out j
    have qRl : (N + 1) < W4.heap.size := HR.out.lt
    exact bodyPost_ret (v := .tuple #[.slice none 0 0, .bool false, .int .i64 2]) (by simp [results, Try.results27, go_sem, qR0]) rfl ⟨_, none, rfl, ino_nil _ _, HB.out⟩
  rw [← HC.out] at HO HBB HE
  have q1 := HO.out
  have q2 := HBB.out
  have q3 := HE.out
  rw [Bool.true_and] at q2
  rw [if_pos rfl] at q1 q3
  subst q1
  subst q2
  subst q3
  have hmk := fun W => run_makeMap (P := Try.prog) 100 W
  go_upto_region 5 with fail
  clear hmk
  obtain ⟨Q, hQ⟩ : ∃ n0, n0 = W3.heap.size := ⟨_, rfl⟩
  rw [← hQ] at HX9
  obtain ⟨W4, hW4⟩ : ∃ X, X = ((W3.alloc (.map #[] 0)).alloc (.cells #[.map (some Q)] 100)).alloc (.cells #[.nilFunc] 101) := ⟨_, rfl⟩
  have hB4 : Below W3.heap.size W3 W4 := by rw [hW4]; exact (((Below.refl _ _).alloc (Nat.le_refl _) _).alloc (by simp) _).alloc (by simp; omega) _
  have hmap : MapO (κ := Nat × List UInt8) W4 Q encP (seenM fun _ => false) := by
    rw [hW4]
    have h0 := (MapO.new (κ := Nat × List UInt8) (enc := encP) W3).fun_eq (M' := seenM fun _ => false) (fun x => by simp [seenM])
    rw [← hQ] at h0
    exact (h0.step ((Below.refl _ _).alloc (Nat.le_refl _) _)).step ((Below.refl _ _).alloc (Nat.le_refl _) _)
  have hcm : Blk W4 (Q + 1) #[.map (some Q)] 100 := by
    rw [hW4]
    have h0 := blk_new (W3.alloc (.map #[] 0)) #[.map (some Q)] 100
    rw [World.size_alloc, ← hQ] at h0
    exact h0.alloc _
  have hcs : Blk W4 (Q + 1 + 1) #[.nilFunc] 101 := by
    rw [hW4]
    have h0 := blk_new ((W3.alloc (.map #[] 0)).alloc (.cells #[.map (some Q)] 100)) #[.nilFunc] 101
    rw [World.size_alloc, World.size_alloc, ← hQ] at h0
    exact h0
  have hwq : w.heap.size ≤ Q := by rw [hQ]; exact HB.out.size
  rw [← hQ]
  rw [← hW4]
  clear hQ hW4
  replace HK := Lib.hid (HK.out.step hB4)
  replace HR := Lib.hid (HR.out.step hB4)
  have hnq : N + 1 < Q := by have := HX9.out; omega
  have hB04 := HB.out.trans (hB4.mono HB.out.size)
  have hst := fun (fn : Fn) (f c : Array Value) (a : Addr) (W : World) m => run_store Try.prog W a (.func fn f c) m rfl
  obtain ⟨W5, hW5⟩ : ∃ X, X = W4.setCell ⟨Q + 1 + 1, 0, none⟩ (.func (.func 55) #[] #[.pointer (some ⟨Q + 1, 0, none⟩), .pointer (some ⟨N, 0, none⟩), .pointer (some ⟨(N + 1), 0, none⟩), .pointer (some ⟨Q + 1 + 1, 0, none⟩)]) := ⟨_, rfl⟩
  have hfr : Fr [Q + 1 + 1] W4 W5 := by rw [hW5]; exact (Fr.refl _ _).setCell _ (.inl (by simp)) _
  have hcs5 : Blk W5 (Q + 1 + 1) #[.func (.func 55) #[] #[.pointer (some ⟨Q + 1, 0, none⟩), .pointer (some ⟨N, 0, none⟩), .pointer (some ⟨(N + 1), 0, none⟩), .pointer (some ⟨Q + 1 + 1, 0, none⟩)]] 101 := by rw [hW5]; exact hcs.set 0 _
  have hse : SE w W5 (Q + 1) Q N (N + 1) (Q + 1 + 1) (.slice a n cap) L (fun _ => false) (.slice none 0 0) none [] :=
    ⟨hB04.trans (hfr.below (by have := hB04.size; omega) (by simp; omega)), HL0.out, (hfr.block _ hcm.lt (by simp)).trans hcm, (hfr.block _ HK.out.lt (by simp; omega)).trans HK.out, hcs5, (hfr.block _ HR.out.lt (by simp; omega)).trans HR.out, hmap.congr (hfr.block _ hmap.lt (by simp; omega)), ino_nil _ _, hwq, by have := HLON.out; omega⟩
  have hlow := hcs.lt
  have hfz := free_at hcs 0
  have hcl := cell_at hcs 0
  have hck : ckB L = true := HC.out.symm
  have hL12 : L.length ≤ 12 := by unfold ckB at hck; simp only [Bool.and_eq_true, decide_eq_true_eq] at hck; exact hck.1
  have hsr : Calls Try.prog 55 #[.int .u64 0, .slice none 0 0, .pointer (some ⟨Q + 1, 0, none⟩), .pointer (some ⟨N, 0, none⟩), .pointer (some ⟨N + 1, 0, none⟩), .pointer (some ⟨Q + 1 + 1, 0, none⟩)] W5 fun e w' => SQ w (Q + 1) Q N (N + 1) (Q + 1 + 1) (.slice a n cap) L (fun _ => false) [] 0 [] W5 e w' :=
    search_any w (Q + 1) Q N (N + 1) (Q + 1 + 1) (.slice a n cap) L hL12 13 0 [] (.slice none 0 0) none (fun _ => false) (.slice none 0 0) none [] W5 (by have := free_le L.length 0; omega) (by omega) rfl (fco_nil _ _) hse (good_none _ _) (by have := free_le L.length 0; simp; omega)
  have HSR := Lib.hid hsr
  have c0 : W5.cell? ⟨Q + 1 + 1, 0, none⟩ = some (.func (.func 55) #[] #[.pointer (some ⟨Q + 1, 0, none⟩), .pointer (some ⟨N, 0, none⟩), .pointer (some ⟨(N + 1), 0, none⟩), .pointer (some ⟨Q + 1 + 1, 0, none⟩)]) := cell_at hcs5 0
  have HC5 := Lib.hid c0
  clear hsr hse hcs5 hfr hcm hmap hB4 hB04 hcs hck hL12 hnq hwq c0
  go_upto_region 6 with fail
  rw [← hW5]
  have c0 := HC5.out
  clear hst hW5 hlow hfz hcl
  go_wp2_with fail
  go_at_call 55
  go_fit HSR.out
  rintro e W6 ⟨b, rfl, hs6, S6, vo6, obo6, ord6, hE6, hm6⟩
  clear c0
  have eo6 : W6.cell? ⟨N + 1, 0, none⟩ = some vo6 := cell_at hE6.co 0
  have fo6 : W6.frozen? ⟨N + 1, 0, none⟩ = false := free_at hE6.co 0
  have lo6 : N + 1 < W6.heap.size := hE6.co.lt
  have HE6 := Lib.hid hE6
  obtain ⟨a6, n6, c6, rfl, H6, q61, q62⟩ := hE6.ord.v.sh
  cases hr : sr L 0 [] with
  | none =>
    rw [hr] at hm6
    obtain ⟨rfl, rfl, _⟩ := hm6
    clear hE6 hs6
    go_wp2_with fail
    obtain ⟨W7, hW7⟩ : ∃ X, X = W6.setCell ⟨N + 1, 0, none⟩ (.slice none 0 0) := ⟨_, rfl⟩
    rw [← hW7]
    obtain ⟨hE7, hS7⟩ := HE6.out.set hW7 (ino_nil _ _)
    have eo7 : W7.cell? ⟨N + 1, 0, none⟩ = some (.slice none 0 0) := cell_at hE7.co 0
    exact bodyPost_ret (v := .tuple #[.slice none 0 0, .bool false, .int .i64 0]) (by simp [results, Try.results27, go_sem, eo7]) rfl ⟨.slice none 0 0, none, by simp [hr], by rw [hr]; exact ino_nil _ _, hE7.lo⟩
  | some r =>
    rw [hr] at hm6
    obtain ⟨rfl, ho6⟩ := hm6
    have HO6 := Lib.hid ho6
    clear hE6 hs6 ho6
    go_wp2_with fail
    obtain ⟨W7, hW7⟩ : ∃ X, X = W6.setCell ⟨N + 1, 0, none⟩ (.slice a6 n6 c6) := ⟨_, rfl⟩
    rw [← hW7]
    obtain ⟨hE7, hS7⟩ := HE6.out.set hW7 HE6.out.ord
    have eo7 : W7.cell? ⟨N + 1, 0, none⟩ = some (.slice a6 n6 c6) := cell_at hE7.co 0
    exact bodyPost_ret (v := .tuple #[.slice a6 n6 c6, .bool true, .int .i64 0]) (by simp [results, Try.results27, go_sem, eo7]) rfl ⟨.slice a6 n6 c6, obo6, by simp [hr], by rw [hr]; have h := hE7.ord; rw [HO6.out] at h; simpa using h, hE7.lo⟩
end Go.Proofs.Ythmjlomlceljkaa
