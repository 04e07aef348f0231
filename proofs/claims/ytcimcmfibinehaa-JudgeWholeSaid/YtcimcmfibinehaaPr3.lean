/-
  weirref23.Parse: the document's own answer.
-/
import Derived.Laws.StructEq
import Derived.Test.YtcimcmfibinehaaPr2
namespace Go.Proofs.Ytcimcmfibinehaa
open Go.RowKit
set_option linter.unusedSimpArgs false
set_option linter.unusedVariables false

def bytesOf (X : Nat → Nat) (n : Nat) : List UInt8 := (List.range n).map fun j => UInt8.ofNat (X j)
theorem bytesOf_len (X : Nat → Nat) (n : Nat) : (bytesOf X n).length = n := by simp [bytesOf]
theorem ByIn.string {W : World} {a : Option Addr} {n c b o : Nat} {X : Nat → Nat} (h : ByIn W a n c b o X) : (convert 26 9 (.slice a n c)).run Try.prog W = .ok (.string ⟨(bytesOf X n).toArray⟩) W := by
  by_cases h0 : n = 0
  · subst h0
    cases a with
    | none =>
      rw [run_convert_bytes_string W 26 9 5 none _ c Try.underlying26 Try.underlying5 Try.underlying9]
      rfl
    | some x => exact run_convert_bytes_back (P := Try.prog) W 26 9 5 x c [] Try.underlying26 Try.underlying5 Try.underlying9 fun j hj => by simp at hj
  · obtain ⟨e0, _⟩ := h.at_ (by omega)
    subst e0
    have hr := run_convert_bytes_back (P := Try.prog) W 26 9 5 ⟨b, o, none⟩ c (bytesOf X n) Try.underlying26 Try.underlying5 Try.underlying9 fun j hj => by
      rw [bytesOf_len] at hj
      rw [addr_add, h.cell j hj]
      have hb := h.bd j
      simp [bytesOf]
      omega
    rw [bytesOf_len] at hr
    exact hr
theorem bytesOf_eq (X Y : Nat → Nat) (hX : ∀ k, X k < 256) (hY : ∀ k, Y k < 256) (n m : Nat) : (bytesOf X n == bytesOf Y m) = (n == m && eqB X Y n) := by
  rw [Bool.eq_iff_iff]
  simp only [beq_iff_eq, Bool.and_eq_true, eqB_iff]
  constructor
  · intro h
    have hl : n = m := by have := congrArg List.length h; rwa [bytesOf_len, bytesOf_len] at this
    subst hl
    refine ⟨rfl, fun k hk => ?_⟩
    have h2 : (bytesOf X n)[k]? = (bytesOf Y n)[k]? := by rw [h]
    simp only [bytesOf, List.getElem?_map, List.getElem?_range hk, Option.map_some, Option.some.injEq] at h2
    have h3 := congrArg UInt8.toNat h2
    simp only [UInt8.toNat_ofNat'] at h3
    have := hX k
    have := hY k
    omega
  · rintro ⟨rfl, h⟩
    unfold bytesOf
    refine List.map_congr_left fun k hk => ?_
    rw [h k (List.mem_range.1 hk)]
theorem str_eql (w : World) (A B : List UInt8) : (binOp .eql 9 (.string ⟨A.toArray⟩) (.string ⟨B.toArray⟩)).run Try.prog w = .ok (.bool (A == B)) w := by
  have h : (binOp .eql 9 (.string ⟨A.toArray⟩) (.string ⟨B.toArray⟩)).run Try.prog w = .ok (.bool ((⟨A.toArray⟩ : ByteArray).toList == (⟨B.toArray⟩ : ByteArray).toList)) w := rfl
  rw [h, ByteArray.toList_eq, ByteArray.toList_eq]


theorem str_neq (w : World) (A B : List UInt8) : (binOp .neq 9 (.string ⟨A.toArray⟩) (.string ⟨B.toArray⟩)).run Try.prog w = .ok (.bool (!(A == B))) w := by
  have h : (binOp .neq 9 (.string ⟨A.toArray⟩) (.string ⟨B.toArray⟩)).run Try.prog w = .ok (.bool (!((⟨A.toArray⟩ : ByteArray).toList == (⟨B.toArray⟩ : ByteArray).toList))) w := rfl
  rw [h, ByteArray.toList_eq, ByteArray.toList_eq]
theorem sizeBy : ∀ W : World, (sizeOf (Try.prog.elem 26)).run Try.prog W = .ok 1 W := fun W => by kernel_rfl
theorem elemBy : Try.prog.underlying 26 = some (.slice (Try.prog.elem 26)) := by kernel_rfl
def tail8 (a : Option Addr) (c : Nat) : Option Addr := if c = 8 then a else a.map (·.add (8 * 1))
theorem by_tail {W : World} {a : Option Addr} {n c b o : Nat} {X : Nat → Nat} (h : ByIn W a n c b o X) (h8 : 8 ≤ n) :
    (∀ W' : World, (Instr.slice 26 (.slice a n c) (some (.int .i64 8)) none none).run Try.prog W' = .ok (.slice (tail8 a c) (n - 8) (c - 8)) W') ∧ ByIn W (tail8 a c) (n - 8) (c - 8) b (o + 8) (fun j => X (8 + j)) := by
  refine ⟨fun W' => ?_, ?_⟩
  · rw [run_slice_l W' 26 a n c elemBy .i64 8 (by omega) (by omega), sizeBy]
    rfl
  · have hl := h.le
    have hm := h.max
    obtain ⟨ea, hb⟩ := h.at_ (by omega)
    refine ⟨by omega, by omega, fun h0 => ⟨?_, hb⟩, fun k hk => ?_, fun k => h.bd _⟩
    · unfold tail8
      rw [if_neg (by omega), ea]
      show some ((⟨b, o, none⟩ : Addr).add (8 * 1)) = _
      rw [addr_add]
    · rw [Nat.add_assoc]
      exact h.cell (8 + k) (by omega)
theorem ByIn.fr {W W' : World} {a : Option Addr} {n c b o : Nat} {X : Nat → Nat} (h : ByIn W a n c b o X) {l : List Nat} (hf : Fr l W W') (hn : 0 < n → b ∉ l) : ByIn W' a n c b o X :=
  ⟨h.le, h.max, fun hk => ⟨(h.at_ hk).1, by have := (h.at_ hk).2; have := hf.size; omega⟩, fun k hk => by
    have hb := hf.block b (h.at_ (by omega)).2 (hn (by omega))
    exact (cell_congr hb _).trans (h.cell k hk), h.bd⟩
set_option maxRecDepth 100000 in
set_option maxHeartbeats 16000000 in
theorem rparse_any (a : Option Addr) (n ca b o : Nat) (X : Nat → Nat) (w : World) (h : ByIn w a n ca b o X) (hn : n ≤ 100000) :
    Calls Try.prog 6 #[.slice a n ca] w (ParseP w n X) := by
  have HA := Lib.hid h
  have HN := Lib.hid hn
  clear h
  obtain ⟨N, hN⟩ : ∃ N, N = w.heap.size := ⟨_, rfl⟩
  obtain ⟨W1, hW1⟩ : ∃ W, W = w.alloc (.cells #[.int .i64 0, .int .i64 0, .int .i64 0, .slice none 0 0] 29) := ⟨_, rfl⟩
  have hB1 : Below w.heap.size w W1 := by rw [hW1]; exact alloc_b9 _ _
  have HR1 := Lib.hid (show Blk W1 N #[.int .i64 0, .int .i64 0, .int .i64 0, .slice none 0 0] 29 by rw [hW1, hN]; exact blk_new _ _ _)
  have HB1 := Lib.hid hB1
  have HNN : Hid (w.heap.size = N) := Lib.hid hN.symm
  have HBAD : Hid (parseOk X n = false → ∀ W', Below w.heap.size w W' → ParseP w n X (.returned (.tuple #[.agg #[.int .i64 0, .int .i64 0, .int .i64 0, .slice none 0 0], .int .i64 230])) W') := Lib.hid (fun hp W' hB => ⟨hB, .inl ⟨hp, rfl⟩⟩)
  clear hB1
  by_cases h8 : n < 8
  · have d0 : decide ((n : Int) < 8) = true := decide_eq_true (by omega)
    have HP : Hid (parseOk X n = false) := Lib.hid (by unfold parseOk; rw [decide_eq_false (by omega)]; rfl)
    clear h8 hn
    go_enter Try.func6, Try.ntmps6
    go_upto_region 1 with fail
    rw [← hN, ← hW1]
    clear hN hW1
    have z0 : W1.cell? ⟨N, 0, none⟩ = some (.int .i64 0) := cell_at HR1.out 0
    have z1 : W1.cell? ⟨N, 1, none⟩ = some (.int .i64 0) := cell_at HR1.out 1
    have z2 : W1.cell? ⟨N, 2, none⟩ = some (.int .i64 0) := cell_at HR1.out 2
    have z3 : W1.cell? ⟨N, 3, none⟩ = some (.slice none 0 0) := cell_at HR1.out 3
    have zz : ∀ j, W1.frozen? ⟨N, j, none⟩ = false := fun j => free_at HR1.out j
    have zl : N < W1.heap.size := HR1.out.lt
    obtain ⟨WZ, hWZ⟩ : ∃ W, W = (((W1.setCell ⟨N, 0, none⟩ (.int .i64 0)).setCell ⟨N, 1, none⟩ (.int .i64 0)).setCell ⟨N, 2, none⟩ (.int .i64 0)).setCell ⟨N, 3, none⟩ (.slice none 0 0) := ⟨_, rfl⟩
    have hfz : Fr [N] W1 WZ := by rw [hWZ]; exact ((((Fr.refl _ _).setCell _ (.inl (by simp)) _).setCell _ (.inl (by simp)) _).setCell _ (.inl (by simp)) _).setCell _ (.inl (by simp)) _
    have HBZ := Lib.hid (HB1.out.trans (hfz.below HB1.out.size (by simp; have := HNN.out; omega)))
    have hrz : Blk WZ N #[.int .i64 0, .int .i64 0, .int .i64 0, .slice none 0 0] 29 := by rw [hWZ]; exact (((HR1.out.set 0 _).set 1 _).set 2 _).set 3 _
    have r0 : WZ.cell? ⟨N, 0, none⟩ = some (.int .i64 0) := cell_at hrz 0
    have r1 : WZ.cell? ⟨N, 1, none⟩ = some (.int .i64 0) := cell_at hrz 1
    have r2 : WZ.cell? ⟨N, 2, none⟩ = some (.int .i64 0) := cell_at hrz 2
    have r3 : WZ.cell? ⟨N, 3, none⟩ = some (.slice none 0 0) := cell_at hrz 3
    clear hfz hrz
    go_wp2_with fail
    rw [← hWZ]
    clear hWZ z0 z1 z2 z3 zz zl
    try rw [Exit.noGoto_ret]
    exact bodyPost_ret (v := .tuple #[.agg #[.int .i64 0, .int .i64 0, .int .i64 0, .slice none 0 0], .int .i64 230]) (by simp [results, Try.results6, go_sem, r0, r1, r2, r3]) rfl (HBAD.out HP.out _ HBZ.out)
  have d0 : decide ((n : Int) < 8) = false := decide_eq_false (by omega)
  have H8 : Hid (8 ≤ n) := Lib.hid (by omega)
  obtain ⟨ea, hbl⟩ := HA.out.at_ (by omega)
  subst ea
  have f1 := HA.out.cell 1 (by omega)
  have f2 := HA.out.cell 2 (by omega)
  have x1 := HA.out.bd 1
  have x2 := HA.out.bd 2
  obtain ⟨t, ht⟩ : ∃ t, t = X 1 := ⟨_, rfl⟩
  obtain ⟨c, hc⟩ : ∃ c, c = X 2 := ⟨_, rfl⟩
  rw [← ht] at f1 x1
  rw [← hc] at f2 x2
  have HT := Lib.hid ht
  have HC := Lib.hid hc
  have HX1 : Hid (t < 256 ∧ c < 256) := Lib.hid ⟨x1, x2⟩
  have wt : IntKind.i64.wrap (t : Int) = t := IntWalk.i64_in _ (by omega)
  have wc : IntKind.i64.wrap (c : Int) = c := IntWalk.i64_in _ (by omega)
  have HF : Hid (∀ W', Below w.heap.size w W' → W'.cell? ⟨b, o + 1, none⟩ = some (.int .u8 (t : Nat)) ∧ W'.cell? ⟨b, o + 2, none⟩ = some (.int .u8 (c : Nat))) := Lib.hid (fun W' hB => ⟨(hB.cell (p := ⟨b, o + 1, none⟩) hbl).trans f1, (hB.cell (p := ⟨b, o + 2, none⟩) hbl).trans f2⟩)
  have i1 : ((1 : Int) < (n : Int)) = True := eq_true (by omega)
  have i2 : ((2 : Int) < (n : Int)) = True := eq_true (by omega)
  have j1 : (1 < n) = True := eq_true (by omega)
  have j2 : (2 < n) = True := eq_true (by omega)
  clear ht hc f1 f2 x1 x2 hbl h8 hn
  go_enter Try.func6, Try.ntmps6
  go_upto_region 1 with fail
  rw [← hN, ← hW1]
  clear hN hW1
  go_upto_region 3 with fail
  refine wp_region_held_drew (S := fun X => X.cell? ⟨b, o + 1, none⟩ = some (.int .u8 (t : Nat)) ∧ X.cell? ⟨b, o + 2, none⟩ = some (.int .u8 (c : Nat))) (by kernel_rfl) (HF.out _ HB1.out.drew) (fun hHeld => ?_)
  try simp only [Act.put, List.setIfInBounds_toArray, List.set_cons_zero, List.set_cons_succ]
  ((refine wpAnyH_take (i := 0) (v := ?_) (by (simp only [List.getElem?_toArray, List.getElem?_cons_succ, List.getElem?_cons_zero]); rfl) (by kernel_rfl) (by kernel_rfl) (by kernel_rfl) (by exact fun _ _ _ h => h) (Or.inl ⟨by rfl, ?_⟩) (by assumption) ?_); rotate_left; focus (intro wS hSw; (try dsimp only at hSw); go_simp; first | done | with_reducible rfl); try simp only [Act.put, List.setIfInBounds_toArray, List.set_cons_zero, List.set_cons_succ])
  ((refine wpAnyH_take (i := 1) (v := ?_) (by (simp only [List.getElem?_toArray, List.getElem?_cons_succ, List.getElem?_cons_zero]); rfl) (by kernel_rfl) (by kernel_rfl) (by kernel_rfl) (by exact fun _ _ _ h => h) (Or.inl ⟨by rfl, ?_⟩) (by assumption) ?_); rotate_left; focus (intro wS hSw; (try dsimp only at hSw); go_simp; first | done | with_reducible rfl); try simp only [Act.put, List.setIfInBounds_toArray, List.set_cons_zero, List.set_cons_succ])
  ((refine wpAnyH_take (i := 2) (v := ?_) (by (simp only [List.getElem?_toArray, List.getElem?_cons_succ, List.getElem?_cons_zero]); rfl) (by kernel_rfl) (by kernel_rfl) (by kernel_rfl) (by exact fun _ _ _ h => h) (Or.inl ⟨by rfl, ?_⟩) (by assumption) ?_); rotate_left; focus (intro wS hSw; (try dsimp only at hSw); go_simp; first | done | with_reducible rfl); try simp only [Act.put, List.setIfInBounds_toArray, List.set_cons_zero, List.set_cons_succ])
  ((refine wpAnyH_take (i := 3) (v := ?_) (by (simp only [List.getElem?_toArray, List.getElem?_cons_succ, List.getElem?_cons_zero]); rfl) (by kernel_rfl) (by kernel_rfl) (by kernel_rfl) (by exact fun _ _ _ h => h) (Or.inl ⟨by rfl, ?_⟩) (by assumption) ?_); rotate_left; focus (intro wS hSw; (try dsimp only at hSw); go_simp; first | done | with_reducible rfl); try simp only [Act.put, List.setIfInBounds_toArray, List.set_cons_zero, List.set_cons_succ])
  ((refine wpAnyH_take (i := 4) (v := ?_) (by (simp only [List.getElem?_toArray, List.getElem?_cons_succ, List.getElem?_cons_zero]); rfl) (by kernel_rfl) (by kernel_rfl) (by kernel_rfl) (by exact fun _ _ _ h => h) (Or.inl ⟨by rfl, ?_⟩) (by assumption) ?_); rotate_left; focus (intro wS hSw; (try dsimp only at hSw); go_simp; first | done | with_reducible rfl); try simp only [Act.put, List.setIfInBounds_toArray, List.set_cons_zero, List.set_cons_succ])
  ((refine wpAnyH_take (i := 5) (v := ?_) (by (simp only [List.getElem?_toArray, List.getElem?_cons_succ, List.getElem?_cons_zero]); rfl) (by kernel_rfl) (by kernel_rfl) (by kernel_rfl) (by exact fun _ _ _ h => h) (Or.inl ⟨by rfl, ?_⟩) (by assumption) ?_); rotate_left; focus (intro wS hSw; (try dsimp only at hSw); go_simp; first | done | with_reducible rfl); try simp only [Act.put, List.setIfInBounds_toArray, List.set_cons_zero, List.set_cons_succ])
  ((refine wpAnyH_take (i := 6) (v := ?_) (by (simp only [List.getElem?_toArray, List.getElem?_cons_succ, List.getElem?_cons_zero]); rfl) (by kernel_rfl) (by kernel_rfl) (by kernel_rfl) (by exact fun _ _ _ h => h) (Or.inl ⟨by rfl, ?_⟩) (by assumption) ?_); rotate_left; focus (intro wS hSw; (try dsimp only at hSw); go_simp; first | done | with_reducible rfl); try simp only [Act.put, List.setIfInBounds_toArray, List.set_cons_zero, List.set_cons_succ])
  ((refine wpAnyH_take (i := 7) (v := ?_) (by (simp only [List.getElem?_toArray, List.getElem?_cons_succ, List.getElem?_cons_zero]); rfl) (by kernel_rfl) (by kernel_rfl) (by kernel_rfl) (by exact fun _ _ _ h => h) (Or.inl ⟨by rfl, ?_⟩) (by assumption) ?_); rotate_left; focus (intro wS hSw; (try dsimp only at hSw); go_simp; first | done | with_reducible rfl); try simp only [Act.put, List.setIfInBounds_toArray, List.set_cons_zero, List.set_cons_succ])
  ((refine wpAnyH_take (i := 8) (v := ?_) (by (simp only [List.getElem?_toArray, List.getElem?_cons_succ, List.getElem?_cons_zero]); rfl) (by kernel_rfl) (by kernel_rfl) (by kernel_rfl) (by exact fun _ _ _ h => h) (Or.inl ⟨by rfl, ?_⟩) (by assumption) ?_); rotate_left; focus (intro wS hSw; (try dsimp only at hSw); go_simp; first | done | with_reducible rfl); try simp only [Act.put, List.setIfInBounds_toArray, List.set_cons_zero, List.set_cons_succ])
  refine wpAnyH_ready (rs := [9]) (by kernel_rfl) (by simp) ?_
  refine AllReadyH.cons (by (simp only [List.getElem?_toArray, List.getElem?_cons_succ, List.getElem?_cons_zero]); rfl) (fun K hK => ?_) AllReadyH.nil
  go_simp
  obtain ⟨G, hG⟩ : ∃ N, N = W1.heap.size := ⟨_, rfl⟩
  obtain ⟨W2, hW2⟩ : ∃ W, W = (W1.alloc (.cells #[.int .i64 0, .int .i64 0, .int .i64 0, .slice none 0 0] 29)).drew := ⟨_, rfl⟩
  have hg2 : Blk W2 G #[.int .i64 0, .int .i64 0, .int .i64 0, .slice none 0 0] 29 := by rw [hW2, hG]; exact blk_new W1 _ _
  have hB2 : Below W1.heap.size W1 W2 := by rw [hW2]; exact (alloc_b9 W1 _).drew
  have HG2 := Lib.hid hg2
  have HR2 := Lib.hid (HR1.out.step hB2)
  have HB2 := Lib.hid (HB1.out.trans (hB2.mono HB1.out.size))
  have HGN : Hid (N < G) := Lib.hid (by rw [hG]; exact HR1.out.lt)
  have HGW : Hid (w.heap.size ≤ G) := Lib.hid (by rw [hG]; exact HB1.out.size)
  first | rw [← hG, ← hW2] | rw [← hW2, ← hG]
  (first | refine hK.out _ _ (HF.out _ HB2.out) (fun hHeld => ?_) | refine hK _ _ (HF.out _ HB2.out) (fun hHeld => ?_))
  clear hK K hg2 hB2 hG hW2
  try simp only [Act.put, List.setIfInBounds_toArray, List.set_cons_zero, List.set_cons_succ]
  have g0 : W2.cell? ⟨G, 0, none⟩ = some (.int .i64 0) := cell_at HG2.out 0
  have g1 : W2.cell? ⟨G, 1, none⟩ = some (.int .i64 0) := cell_at HG2.out 1
  have g2 : W2.cell? ⟨G, 2, none⟩ = some (.int .i64 0) := cell_at HG2.out 2
  have g3 : W2.cell? ⟨G, 3, none⟩ = some (.slice none 0 0) := cell_at HG2.out 3
  have gz : ∀ j, W2.frozen? ⟨G, j, none⟩ = false := fun j => free_at HG2.out j
  have gl : G < W2.heap.size := HG2.out.lt
  refine wpAnyH_ready (rs := [10]) (by kernel_rfl) (by simp) ?_
  refine AllReadyH.cons (by (simp only [List.getElem?_toArray, List.getElem?_cons_succ, List.getElem?_cons_zero]); rfl) (fun K hK => ?_) AllReadyH.nil
  generalize hW3' : (((W2.setCell ⟨G, 0, none⟩ (.int .i64 0)).setCell ⟨G, 1, none⟩ (.int .i64 (t : Nat))).setCell ⟨G, 2, none⟩ (.int .i64 (c : Nat))).setCell ⟨G, 3, none⟩ (.slice none 0 0) = W3
  have hW3 := hW3'.symm
  clear hW3'
  have hg3 : Blk W3 G #[.int .i64 0, .int .i64 (t : Nat), .int .i64 (c : Nat), .slice none 0 0] 29 := by rw [hW3]; exact (((HG2.out.set 0 _).set 1 _).set 2 _).set 3 _
  have hf3 : Fr [G] W2 W3 := by rw [hW3]; exact ((((Fr.refl _ _).setCell _ (.inl (by simp)) _).setCell _ (.inl (by simp)) _).setCell _ (.inl (by simp)) _).setCell _ (.inl (by simp)) _
  have HG3 := Lib.hid hg3
  have HR3 := Lib.hid (show Blk W3 N #[.int .i64 0, .int .i64 0, .int .i64 0, .slice none 0 0] 29 from (hf3.block N HR2.out.lt (by simp; have := HGN.out; omega)).trans HR2.out)
  have HB3 := Lib.hid (HB2.out.trans (hf3.below HB2.out.size (by simp; exact HGW.out)))
  go_simp
  rw [← hW3]
  (first | refine hK.out _ _ (HF.out _ HB3.out) (fun hHeld => ?_) | refine hK _ _ (HF.out _ HB3.out) (fun hHeld => ?_))
  clear hK K g0 g1 g2 g3 gz gl hW3 hg3 hf3
  try simp only [Act.put, List.setIfInBounds_toArray, List.set_cons_zero, List.set_cons_succ]
  refine wpAnyH_done (by kernel_rfl) ?_ _
  try simp only [Act.put, List.setIfInBounds_toArray, List.set_cons_zero, List.set_cons_succ]
  go_upto_region 4 with fail
  obtain ⟨htl, hby8⟩ := by_tail (HA.out.below HB3.out) H8.out
  obtain ⟨pa, hpa⟩ : ∃ x, x = tail8 (some ⟨b, o, none⟩) ca := ⟨_, rfl⟩
  obtain ⟨pn, hpn⟩ : ∃ x, x = n - 8 := ⟨_, rfl⟩
  obtain ⟨pc, hpc⟩ : ∃ x, x = ca - 8 := ⟨_, rfl⟩
  rw [← hpa, ← hpn, ← hpc] at htl hby8
  have HPN := Lib.hid hpn
  have HBY8 := Lib.hid hby8
  obtain ⟨v4, ob4, W4, hrun4, hr4, ho4, hlo4, hg4, hs4⟩ := by_grow (W := W3.drew) (M := W3.heap.size) (ty := 26) (Row.nil W3.drew 5 1) (fun g e => by cases e) (hby8.below (W' := W3.drew) (Below.refl _ _).drew) (Nat.le_refl _) (by have := HN.out; omega)
  rw [show (rowV (putB (fun _ => 0) 0 fun j => X (8 + j)) (0 + pn)) = rowV (fun j => X (8 + j)) pn by rw [rowV_put]; simp [rowV], Nat.zero_add] at hr4
  replace hlo4 : Below W3.heap.size W3 W4 := (show Below W3.heap.size W3 W3.drew from (Below.refl _ _).drew).trans hlo4
  obtain ⟨a4, c4, rfl, hby4⟩ := row_by hr4 (fun j => HA.out.bd _)
  have HRUN := Lib.hid hrun4
  have HBY4 := Lib.hid hby4
  have HG4 := Lib.hid (HG3.out.step hlo4)
  have HR4 := Lib.hid (HR3.out.step hlo4)
  have HB4 := Lib.hid (HB3.out.trans (hlo4.mono HB3.out.size))
  have HO4 : Hid (0 < pn → G < ob4.getD 0 ∧ w.heap.size ≤ ob4.getD 0) := Lib.hid (fun h0 => by
    rcases hr4.cases with ⟨_, _, h, _⟩ | ⟨g, _, _, h, _⟩
    · omega
    · rw [h]
      have h1 := ho4 g h
      have h2 := HG3.out.lt
      have h3 := HB3.out.size
      exact ⟨Nat.lt_of_lt_of_le h2 h1, Nat.le_trans h3 h1⟩)
  clear hrun4 hr4 ho4 hlo4 hg4 hs4 hby8 hby4 hpa hpn hpc
  refine wp_region_held_drew (S := fun _ => True) (by kernel_rfl) trivial (fun hHeld => ?_)
  try simp only [Act.put, List.setIfInBounds_toArray, List.set_cons_zero, List.set_cons_succ]
  ((refine wpAnyH_take (i := 0) (v := ?_) (by (simp only [List.getElem?_toArray, List.getElem?_cons_succ, List.getElem?_cons_zero]); rfl) (by kernel_rfl) (by kernel_rfl) (by kernel_rfl) (by exact fun _ _ _ h => h) (Or.inl ⟨by rfl, ?_⟩) (by assumption) ?_); rotate_left; focus (intro wS hSw; (try dsimp only at hSw); go_simp; first | done | with_reducible rfl); try simp only [Act.put, List.setIfInBounds_toArray, List.set_cons_zero, List.set_cons_succ])
  ((refine wpAnyH_take (i := 2) (v := ?_) (by (simp only [List.getElem?_toArray, List.getElem?_cons_succ, List.getElem?_cons_zero]); rfl) (by kernel_rfl) (by kernel_rfl) (by kernel_rfl) (by exact fun _ _ _ h => h) (Or.inl ⟨by rfl, ?_⟩) (by assumption) ?_); rotate_left; focus (intro wS hSw; (try dsimp only at hSw); go_simp; first | done | with_reducible rfl); try simp only [Act.put, List.setIfInBounds_toArray, List.set_cons_zero, List.set_cons_succ])
  ((refine wpAnyH_take (i := 3) (v := ?_) (by (simp only [List.getElem?_toArray, List.getElem?_cons_succ, List.getElem?_cons_zero]); rfl) (by kernel_rfl) (by kernel_rfl) (by kernel_rfl) (by exact fun _ _ _ h => h) (Or.inl ⟨by rfl, ?_⟩) (by assumption) ?_); rotate_left; focus (intro wS hSw; (try dsimp only at hSw); go_simp; first | done | with_reducible rfl); try simp only [Act.put, List.setIfInBounds_toArray, List.set_cons_zero, List.set_cons_succ])
  have g3 : W3.drew.cell? ⟨G, 3, none⟩ = some (.slice none 0 0) := cell_at HG3.out 3
  refine wpAnyH_ready (rs := [1]) (by kernel_rfl) (by simp) ?_
  refine AllReadyH.cons (by (simp only [List.getElem?_toArray, List.getElem?_cons_succ, List.getElem?_cons_zero]); rfl) (fun K hK => ?_) AllReadyH.nil
  go_simp
  (first | refine hK.out _ _ trivial (fun hHeld => ?_) | refine hK _ _ trivial (fun hHeld => ?_))
  clear hK K g3 htl
  try simp only [Act.put, List.setIfInBounds_toArray, List.set_cons_zero, List.set_cons_succ]
  refine wpAnyH_ready (rs := [4]) (by kernel_rfl) (by simp) ?_
  refine AllReadyH.cons (by (simp only [List.getElem?_toArray, List.getElem?_cons_succ, List.getElem?_cons_zero]); rfl) (fun K hK => ?_) AllReadyH.nil
  rw [if_pos (by rfl)]
  refine op_append_run (.tmp 21) (.tmp 23) 26 (by kernel_rfl) (by kernel_rfl) (by kernel_rfl) HRUN.out ?_
  (first | refine hK.out _ _ trivial (fun hHeld => ?_) | refine hK _ _ trivial (fun hHeld => ?_))
  clear hK K HRUN
  try simp only [Act.put, List.setIfInBounds_toArray, List.set_cons_zero, List.set_cons_succ]
  ((refine wpAnyH_take (i := 5) (v := ?_) (by (simp only [List.getElem?_toArray, List.getElem?_cons_succ, List.getElem?_cons_zero]); rfl) (by kernel_rfl) (by kernel_rfl) (by kernel_rfl) (by exact fun _ _ _ h => h) (Or.inl ⟨by rfl, ?_⟩) (by assumption) ?_); rotate_left; focus (intro wS hSw; (try dsimp only at hSw); go_simp; first | done | with_reducible rfl); try simp only [Act.put, List.setIfInBounds_toArray, List.set_cons_zero, List.set_cons_succ])
  have g3 : W4.cell? ⟨G, 3, none⟩ = some (.slice none 0 0) := cell_at HG4.out 3
  have gz : ∀ j, W4.frozen? ⟨G, j, none⟩ = false := fun j => free_at HG4.out j
  have gl : G < W4.heap.size := HG4.out.lt
  refine wpAnyH_ready (rs := [6]) (by kernel_rfl) (by simp) ?_
  refine AllReadyH.cons (by (simp only [List.getElem?_toArray, List.getElem?_cons_succ, List.getElem?_cons_zero]); rfl) (fun K hK => ?_) AllReadyH.nil
  generalize hW5' : W4.setCell ⟨G, 3, none⟩ (.slice a4 pn c4) = W5
  have hW5 := hW5'.symm
  clear hW5'
  have hf5 : Fr [G] W4 W5 := by rw [hW5]; exact (Fr.refl _ _).setCell _ (.inl (by simp)) _
  have HG5 := Lib.hid (show Blk W5 G #[.int .i64 0, .int .i64 (t : Nat), .int .i64 (c : Nat), .slice a4 pn c4] 29 by rw [hW5]; exact HG4.out.set 3 _)
  have HR5 := Lib.hid (show Blk W5 N #[.int .i64 0, .int .i64 0, .int .i64 0, .slice none 0 0] 29 from (hf5.block N HR4.out.lt (by simp; have := HGN.out; omega)).trans HR4.out)
  have HB5 := Lib.hid (HB4.out.trans (hf5.below HB4.out.size (by simp; exact HGW.out)))
  have HBY5 := Lib.hid (HBY4.out.fr hf5 (fun h0 => by simp; have := (HO4.out h0).1; omega))
  go_simp
  rw [← hW5]
  (first | refine hK.out _ _ trivial (fun hHeld => ?_) | refine hK _ _ trivial (fun hHeld => ?_))
  clear hK K g3 gz gl hW5 hf5 HG4 HR4 HB4 HBY4 HG3 HR3 HB3 HG2 HR2 HB2 HBY8
  try simp only [Act.put, List.setIfInBounds_toArray, List.set_cons_zero, List.set_cons_succ]
  refine wpAnyH_done (by kernel_rfl) ?_ _
  try simp only [Act.put, List.setIfInBounds_toArray, List.set_cons_zero, List.set_cons_succ]
  go_upto_region 5 with fail
  have g0 : W5.cell? ⟨G, 0, none⟩ = some (.int .i64 0) := cell_at HG5.out 0
  have g1 : W5.cell? ⟨G, 1, none⟩ = some (.int .i64 (t : Nat)) := cell_at HG5.out 1
  have g2 : W5.cell? ⟨G, 2, none⟩ = some (.int .i64 (c : Nat)) := cell_at HG5.out 2
  have g3 : W5.cell? ⟨G, 3, none⟩ = some (.slice a4 pn c4) := cell_at HG5.out 3
  by_cases hbad : t < 1 ∨ 16 < t ∨ 1492 < pn
  · have HP : Hid (parseOk X n = false) := Lib.hid (by
      unfold parseOk
      rcases hbad with h | h | h
      · rw [decide_eq_false (p := 1 ≤ X 1 ∧ X 1 ≤ 16) (by rw [← HT.out]; omega)]; simp
      · rw [decide_eq_false (p := 1 ≤ X 1 ∧ X 1 ≤ 16) (by rw [← HT.out]; omega)]; simp
      · rw [decide_eq_false (p := 8 ≤ n ∧ n ≤ 1500) (by have := HPN.out; omega)]; rfl)
    have RB := Lib.hid (rbuild_bad 0 t c a4 pn c4 W5 hbad (by have := HX1.out; omega) (by have := HPN.out; have := HN.out; omega))
    clear hbad
    go_wp2_with fail
    go_at_call 12
    go_fit (RB.out)
    rintro e W6 ⟨E, rfl, hE, hB6⟩
    have HR6 := Lib.hid (HR5.out.step hB6)
    have HB6 := Lib.hid (HB5.out.trans (hB6.mono HB5.out.size))
    have dE : ((E : Int) != 0) = true := by simpa using hE
    clear hE hB6 RB g0 g1 g2 g3
    have z0 : W6.cell? ⟨N, 0, none⟩ = some (.int .i64 0) := cell_at HR6.out 0
    have z1 : W6.cell? ⟨N, 1, none⟩ = some (.int .i64 0) := cell_at HR6.out 1
    have z2 : W6.cell? ⟨N, 2, none⟩ = some (.int .i64 0) := cell_at HR6.out 2
    have z3 : W6.cell? ⟨N, 3, none⟩ = some (.slice none 0 0) := cell_at HR6.out 3
    have zz : ∀ j, W6.frozen? ⟨N, j, none⟩ = false := fun j => free_at HR6.out j
    have zl : N < W6.heap.size := HR6.out.lt
    obtain ⟨WZ, hWZ⟩ : ∃ W, W = (((W6.setCell ⟨N, 0, none⟩ (.int .i64 0)).setCell ⟨N, 1, none⟩ (.int .i64 0)).setCell ⟨N, 2, none⟩ (.int .i64 0)).setCell ⟨N, 3, none⟩ (.slice none 0 0) := ⟨_, rfl⟩
    have hfz : Fr [N] W6 WZ := by rw [hWZ]; exact ((((Fr.refl _ _).setCell _ (.inl (by simp)) _).setCell _ (.inl (by simp)) _).setCell _ (.inl (by simp)) _).setCell _ (.inl (by simp)) _
    have HBZ := Lib.hid (HB6.out.trans (hfz.below HB6.out.size (by simp; have := HNN.out; omega)))
    have hrz : Blk WZ N #[.int .i64 0, .int .i64 0, .int .i64 0, .slice none 0 0] 29 := by rw [hWZ]; exact (((HR6.out.set 0 _).set 1 _).set 2 _).set 3 _
    have r0 : WZ.cell? ⟨N, 0, none⟩ = some (.int .i64 0) := cell_at hrz 0
    have r1 : WZ.cell? ⟨N, 1, none⟩ = some (.int .i64 0) := cell_at hrz 1
    have r2 : WZ.cell? ⟨N, 2, none⟩ = some (.int .i64 0) := cell_at hrz 2
    have r3 : WZ.cell? ⟨N, 3, none⟩ = some (.slice none 0 0) := cell_at hrz 3
    clear hfz hrz
    go_wp2_with fail
    rw [← hWZ]
    clear hWZ z0 z1 z2 z3 zz zl
    try rw [Exit.noGoto_ret]
    exact bodyPost_ret (v := .tuple #[.agg #[.int .i64 0, .int .i64 0, .int .i64 0, .slice none 0 0], .int .i64 230]) (by simp [results, Try.results6, go_sem, r0, r1, r2, r3]) rfl (HBAD.out HP.out _ HBZ.out)
  · have htc : 1 ≤ t ∧ t ≤ 16 := by omega
    have hp92 : pn ≤ 1492 := by omega
    have RB := Lib.hid (rbuild_any 0 t c a4 pn c4 (ob4.getD 0) 0 (fun j => X (8 + j)) W5 HBY5.out htc (by have := HX1.out; omega) hp92)
    have hbdZ : ∀ j, (fixB (putB (headB t c pn) 8 fun j => X (8 + j)) (65535 - sumN16 (putB (headB t c pn) 8 fun j => X (8 + j)) (8 + pn))) j < 256 := fun j => fix_bd (head_bd HX1.out.1 HX1.out.2 (by omega) fun j => HA.out.bd _) (by omega) j
    have h8p : 8 + pn = n := by have := HPN.out; have := H8.out; omega
    obtain ⟨q, hq⟩ : ∃ q, q = eqB (againB X n) X n := ⟨_, rfl⟩
    have HPQ : Hid (parseOk X n = q) := Lib.hid (by unfold parseOk; rw [← HT.out, decide_eq_true ⟨H8.out, by omega⟩, decide_eq_true htc, hq]; rfl)
    have hzz : (fixB (putB (headB t c pn) 8 fun j => X (8 + j)) (65535 - sumN16 (putB (headB t c pn) 8 fun j => X (8 + j)) (8 + pn))) = againB X n := by
      rw [againB, ← HT.out, ← HC.out, ← HPN.out, h8p]
    rw [hzz, h8p] at RB
    rw [hzz] at hbdZ
    have HZB := Lib.hid hbdZ
    have HQ := Lib.hid hq
    clear hbad htc hp92 hbdZ h8p hq hzz
    go_wp2_with fail
    go_at_call 12
    go_fit (RB.out)
    rintro e W6 ⟨v6, ob6, rfl, hr6, ho6, hB6⟩
    obtain ⟨a6, c6, rfl, hby6⟩ := row_by hr6 HZB.out
    have HR6 := Lib.hid (HR5.out.step hB6)
    have HG6 := Lib.hid (HG5.out.step hB6)
    have HBY6 := Lib.hid (HBY5.out.below hB6)
    have HB6 := Lib.hid (HB5.out.trans (hB6.mono HB5.out.size))
    have cv1 := hby6.string
    have cv2 := (HA.out.below HB6.out).string
    have hne := str_neq W6 (bytesOf (againB X n) n) (bytesOf X n)
    rw [bytesOf_eq _ _ HZB.out HA.out.bd, show ((n == n) && eqB (againB X n) X n) = q by rw [HQ.out]; simp] at hne
    obtain ⟨S1, hS1⟩ : ∃ S, S = (⟨(bytesOf (againB X n) n).toArray⟩ : ByteArray) := ⟨_, rfl⟩
    obtain ⟨S2, hS2⟩ : ∃ S, S = (⟨(bytesOf X n).toArray⟩ : ByteArray) := ⟨_, rfl⟩
    rw [← hS1] at cv1
    rw [← hS2] at cv2
    have hte : (S1.toList == S2.toList) = q := by rw [hS1, hS2, ByteArray.toList_eq, ByteArray.toList_eq, bytesOf_eq _ _ HZB.out HA.out.bd, HQ.out]; simp
    clear hne
    clear hr6 ho6 hby6 hB6 RB g0 g1 g2 g3 hS1 hS2
    cases q
    · have HP := HPQ
      have z0 : W6.cell? ⟨N, 0, none⟩ = some (.int .i64 0) := cell_at HR6.out 0
      have z1 : W6.cell? ⟨N, 1, none⟩ = some (.int .i64 0) := cell_at HR6.out 1
      have z2 : W6.cell? ⟨N, 2, none⟩ = some (.int .i64 0) := cell_at HR6.out 2
      have z3 : W6.cell? ⟨N, 3, none⟩ = some (.slice none 0 0) := cell_at HR6.out 3
      have zz : ∀ j, W6.frozen? ⟨N, j, none⟩ = false := fun j => free_at HR6.out j
      have zl : N < W6.heap.size := HR6.out.lt
      obtain ⟨WZ, hWZ⟩ : ∃ W, W = (((W6.setCell ⟨N, 0, none⟩ (.int .i64 0)).setCell ⟨N, 1, none⟩ (.int .i64 0)).setCell ⟨N, 2, none⟩ (.int .i64 0)).setCell ⟨N, 3, none⟩ (.slice none 0 0) := ⟨_, rfl⟩
      have hfz : Fr [N] W6 WZ := by rw [hWZ]; exact ((((Fr.refl _ _).setCell _ (.inl (by simp)) _).setCell _ (.inl (by simp)) _).setCell _ (.inl (by simp)) _).setCell _ (.inl (by simp)) _
      have HBZ := Lib.hid (HB6.out.trans (hfz.below HB6.out.size (by simp; have := HNN.out; omega)))
      have hrz : Blk WZ N #[.int .i64 0, .int .i64 0, .int .i64 0, .slice none 0 0] 29 := by rw [hWZ]; exact (((HR6.out.set 0 _).set 1 _).set 2 _).set 3 _
      have r0 : WZ.cell? ⟨N, 0, none⟩ = some (.int .i64 0) := cell_at hrz 0
      have r1 : WZ.cell? ⟨N, 1, none⟩ = some (.int .i64 0) := cell_at hrz 1
      have r2 : WZ.cell? ⟨N, 2, none⟩ = some (.int .i64 0) := cell_at hrz 2
      have r3 : WZ.cell? ⟨N, 3, none⟩ = some (.slice none 0 0) := cell_at hrz 3
      clear hfz hrz
      go_wp2_with fail
      rw [← hWZ]
      clear hWZ z0 z1 z2 z3 zz zl
      try rw [Exit.noGoto_ret]
      exact bodyPost_ret (v := .tuple #[.agg #[.int .i64 0, .int .i64 0, .int .i64 0, .slice none 0 0], .int .i64 230]) (by simp [results, Try.results6, go_sem, r0, r1, r2, r3]) rfl (HBAD.out HP.out _ HBZ.out)
    · have z0 : W6.cell? ⟨N, 0, none⟩ = some (.int .i64 0) := cell_at HR6.out 0
      have z1 : W6.cell? ⟨N, 1, none⟩ = some (.int .i64 0) := cell_at HR6.out 1
      have z2 : W6.cell? ⟨N, 2, none⟩ = some (.int .i64 0) := cell_at HR6.out 2
      have z3 : W6.cell? ⟨N, 3, none⟩ = some (.slice none 0 0) := cell_at HR6.out 3
      have zz : ∀ j, W6.frozen? ⟨N, j, none⟩ = false := fun j => free_at HR6.out j
      have zl : N < W6.heap.size := HR6.out.lt
      have g0 : W6.cell? ⟨G, 0, none⟩ = some (.int .i64 0) := cell_at HG6.out 0
      have g1 : W6.cell? ⟨G, 1, none⟩ = some (.int .i64 (t : Nat)) := cell_at HG6.out 1
      have g2 : W6.cell? ⟨G, 2, none⟩ = some (.int .i64 (c : Nat)) := cell_at HG6.out 2
      have g3 : W6.cell? ⟨G, 3, none⟩ = some (.slice a4 pn c4) := cell_at HG6.out 3
      obtain ⟨WZ, hWZ⟩ : ∃ W, W = (((W6.setCell ⟨N, 0, none⟩ (.int .i64 0)).setCell ⟨N, 1, none⟩ (.int .i64 (t : Nat))).setCell ⟨N, 2, none⟩ (.int .i64 (c : Nat))).setCell ⟨N, 3, none⟩ (.slice a4 pn c4) := ⟨_, rfl⟩
      have hfz : Fr [N] W6 WZ := by rw [hWZ]; exact ((((Fr.refl _ _).setCell _ (.inl (by simp)) _).setCell _ (.inl (by simp)) _).setCell _ (.inl (by simp)) _).setCell _ (.inl (by simp)) _
      have HBZ := Lib.hid (HB6.out.trans (hfz.below HB6.out.size (by simp; have := HNN.out; omega)))
      have HBYZ := Lib.hid (HBY6.out.fr hfz (fun h0 => by simp; have := (HO4.out h0).1; have := HGN.out; omega))
      have hrz : Blk WZ N #[.int .i64 0, .int .i64 (t : Nat), .int .i64 (c : Nat), .slice a4 pn c4] 29 := by rw [hWZ]; exact (((HR6.out.set 0 _).set 1 _).set 2 _).set 3 _
      have r0 : WZ.cell? ⟨N, 0, none⟩ = some (.int .i64 0) := cell_at hrz 0
      have r1 : WZ.cell? ⟨N, 1, none⟩ = some (.int .i64 (t : Nat)) := cell_at hrz 1
      have r2 : WZ.cell? ⟨N, 2, none⟩ = some (.int .i64 (c : Nat)) := cell_at hrz 2
      have r3 : WZ.cell? ⟨N, 3, none⟩ = some (.slice a4 pn c4) := cell_at hrz 3
      clear hfz hrz
      go_wp2_with fail
      rw [← hWZ]
      clear hWZ z0 z1 z2 z3 zz zl
      try rw [Exit.noGoto_ret]
      refine bodyPost_ret (v := .tuple #[.agg #[.int .i64 0, .int .i64 (t : Nat), .int .i64 (c : Nat), .slice a4 pn c4], .int .i64 0]) (by simp [results, Try.results6, go_sem, r0, r1, r2, r3]) rfl ⟨HBZ.out, .inr ⟨HPQ.out, a4, c4, ob4.getD 0, ?_, ?_, ?_⟩⟩
      · rw [HT.out, HC.out, HPN.out]
      · rw [← HPN.out]; exact HBYZ.out
      · intro h0
        exact (HO4.out (by have := HPN.out; omega)).2
end Go.Proofs.Ytcimcmfibinehaa
