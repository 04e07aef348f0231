/-
  A message without entries and data; its twin.
-/
import Derived.Test.YtokhdpokcfkfpaaAi1
namespace Go.Proofs.Ytokhdpokcfkfpaa
open Go.RowKit
set_option linter.unusedSimpArgs false
set_option linter.unusedVariables false

structure MsE where
  f : Int
  t : Int
  te : Int
  ix : Int
  kd : Int
  la : Int
  co : Int
  ok : Bool
  si : Int
  st : Int
  sc : Int
def MsE.cells (m : MsE) : List Value := [.int .i8 m.kd, .int .i64 m.f, .int .i64 m.t, .int .i64 m.te, .int .i64 m.ix, .int .i64 m.la, .int .i64 m.co, .bool m.ok, .slice none 0 0, .int .i64 m.si, .int .i64 m.st, .int .u8 m.sc, .slice none 0 0, .slice none 0 0]
def msL (L : List MsE) : List Value := L.flatMap MsE.cells
theorem msL_nil : msL [] = [] := rfl
theorem msL_append (a b : List MsE) : msL (a ++ b) = msL a ++ msL b := by simp [msL]
theorem msL_one (m : MsE) : msL [m] = m.cells := by simp [msL]
theorem msL_len : ∀ L : List MsE, (msL L).length = L.length * 14
  | [] => rfl
  | m :: l => by
    show (m.cells ++ msL l).length = _
    rw [List.length_append, msL_len l]
    simp [MsE.cells]
    omega
theorem msL_at : ∀ (L : List MsE) (k j : Nat) (m : MsE), L[k]? = some m → j < 14 → (msL L)[k * 14 + j]? = m.cells[j]?
  | [], k, j, m, h, _ => by simp at h
  | x :: l, 0, j, m, h, hj => by
    obtain rfl : x = m := by simpa using h
    show (x.cells ++ msL l)[_]? = _
    rw [List.getElem?_append_left (by simp [MsE.cells]; omega)]
    congr 1
    omega
  | x :: l, k + 1, j, m, h, hj => by
    show (x.cells ++ msL l)[_]? = _
    have hc : x.cells.length = 14 := by simp [MsE.cells]
    rw [List.getElem?_append_right (by omega), hc, show (k + 1) * 14 + j - 14 = k * 14 + j by omega]
    exact msL_at l k j m (by simpa using h) hj

set_option maxRecDepth 100000 in
set_option maxHeartbeats 2000000 in
theorem eachE_nil (fv : Value) (w : World) :
    Calls Try.prog 45 #[.slice none 0 0, fv] w fun e w' => e = .returned (.slice none 0 0) ∧ w = w' := by
  go_enter Try.func45, Try.ntmps45
  go_wp2_with fail
  refine wp_loop_rounds 1 ?_
  rw [rounds_succ]
  go_wp2_with fail
  go_ret
  exact ⟨rfl, rfl⟩
theorem byte_eql_nil (w : World) : (binOp .eql 35 (.slice none 0 0) (.slice none 0 0)).run Try.prog w = .ok (.bool true) w := by kernel_rfl
set_option maxRecDepth 100000 in
set_option maxHeartbeats 2000000 in
theorem cloneB_nil (w : World) :
    Calls Try.prog 47 #[.slice none 0 0] w fun e w' => e = .returned (.slice none 0 0) ∧ w = w' := by
  have hq := byte_eql_nil
  go_enter Try.func47, Try.ntmps47
  go_wp2_with fail
  go_ret
  exact ⟨rfl, rfl⟩

theorem stC_fr (b : Nat) : ∀ (l : List Value) (o : Nat) (w : World), Fr [b] w (w.setCells b o l)
  | [], _, w => Fr.refl _ _
  | v :: r, o, w => ((Fr.refl [b] w).setCell ⟨b, o, none⟩ (.inl (by simp)) v).trans (stC_fr b r (o + 1) _) (fun x hx => .inl hx)
theorem stC_pt {b : Nat} {t : TypeId} : ∀ (L : List Value) (o : Nat) {W : World} {cs : Array Value}, Blk W b cs t → o + L.length ≤ cs.size → ∃ cs', Blk (W.setCells b o L) b cs' t ∧ cs'.size = cs.size ∧ (∀ j, j < o → cs'[j]? = cs[j]?) ∧ (∀ i, i < L.length → cs'[o + i]? = L[i]?) ∧ ∀ j, o + L.length ≤ j → cs'[j]? = cs[j]?
  | [], o, W, cs, h, _ => ⟨cs, h, rfl, fun _ _ => rfl, fun i hi => absurd hi (Nat.not_lt_zero _), fun _ _ => rfl⟩
  | v :: r, o, W, cs, h, hl => by
    have hl' : o + (r.length + 1) ≤ cs.size := hl
    obtain ⟨cs', k1, k2, k3, k4, k5⟩ := stC_pt r (o + 1) (h.set o v) (by simp; omega)
    refine ⟨cs', k1, by simpa using k2, fun j hj => ?_, fun i hi => ?_, fun j hj => ?_⟩
    · rw [k3 j (by omega), Array.getElem?_setIfInBounds, if_neg (by omega)]
    · rcases Nat.eq_zero_or_pos i with rfl | hp
      · rw [Nat.add_zero, k3 o (by omega), Array.getElem?_setIfInBounds, if_pos rfl, if_pos (by omega)]
        rfl
      · obtain ⟨m, rfl⟩ : ∃ m, i = m + 1 := ⟨i - 1, by omega⟩
        have := k4 m (by simpa using hi)
        rw [show o + (m + 1) = o + 1 + m by omega, this]
        rfl
    · have hj' : o + (r.length + 1) ≤ j := hj
      rw [k5 j (by omega), Array.getElem?_setIfInBounds, if_neg (by omega)]
theorem stC_blk {W : World} {b : Nat} {cs : Array Value} {t : TypeId} (h : Blk W b cs t) (L : List Value) (hl : L.length = cs.size) : Blk (W.setCells b 0 L) b L.toArray t := by
  obtain ⟨cs', k1, k2, k3, k4, k5⟩ := stC_pt L 0 h (by omega)
  have : cs' = L.toArray := by
    apply Array.ext_getElem?
    intro i
    by_cases hi : i < L.length
    · have := k4 i hi
      rw [Nat.zero_add] at this
      rw [this]
      simp
    · rw [Array.getElem?_eq_none (by omega), Array.getElem?_eq_none (by simp; omega)]
  rw [this] at k1
  exact k1

set_option maxRecDepth 100000 in
set_option maxHeartbeats 8000000 in
theorem twin_any (m : MsE) (w : World) :
    Calls Try.prog 35 #[.agg #[.int .i8 m.kd, .int .i64 m.f, .int .i64 m.t, .int .i64 m.te, .int .i64 m.ix, .int .i64 m.la, .int .i64 m.co, .bool m.ok, .slice none 0 0, .int .i64 m.si, .int .i64 m.st, .int .u8 m.sc, .slice none 0 0, .slice none 0 0]] w fun e w' => e = .returned (.agg #[.int .i8 m.kd, .int .i64 m.f, .int .i64 m.t, .int .i64 m.te, .int .i64 m.ix, .int .i64 m.la, .int .i64 m.co, .bool m.ok, .slice none 0 0, .int .i64 m.si, .int .i64 m.st, .int .u8 m.sc, .slice none 0 0, .slice none 0 0]) ∧ Below w.heap.size w w' := by
  obtain ⟨N, hN⟩ : ∃ N, N = w.heap.size := ⟨_, rfl⟩
  obtain ⟨W1, hW1⟩ : ∃ W1, W1 = (w.alloc (.cells #[.int .i8 m.kd, .int .i64 m.f, .int .i64 m.t, .int .i64 m.te, .int .i64 m.ix, .int .i64 m.la, .int .i64 m.co, .bool m.ok, .slice none 0 0, .int .i64 m.si, .int .i64 m.st, .int .u8 m.sc, .slice none 0 0, .slice none 0 0] 39)).alloc (.cells #[.int .i8 0, .int .i64 0, .int .i64 0, .int .i64 0, .int .i64 0, .int .i64 0, .int .i64 0, .bool false, .slice none 0 0, .int .i64 0, .int .i64 0, .int .u8 0, .slice none 0 0, .slice none 0 0] 39) := ⟨_, rfl⟩
  have hB1 : Below N w W1 := by rw [hW1, hN]; exact ((Below.refl _ _).alloc (Nat.le_refl _) _).alloc (by simp) _
  have HK : Hid (Blk W1 N #[.int .i8 m.kd, .int .i64 m.f, .int .i64 m.t, .int .i64 m.te, .int .i64 m.ix, .int .i64 m.la, .int .i64 m.co, .bool m.ok, .slice none 0 0, .int .i64 m.si, .int .i64 m.st, .int .u8 m.sc, .slice none 0 0, .slice none 0 0] 39) := Lib.hid (by rw [hW1, hN]; exact (blk_new _ _ _).alloc _)
  have HR : Hid (Blk W1 (N + 1) #[.int .i8 0, .int .i64 0, .int .i64 0, .int .i64 0, .int .i64 0, .int .i64 0, .int .i64 0, .bool false, .slice none 0 0, .int .i64 0, .int .i64 0, .int .u8 0, .slice none 0 0, .slice none 0 0] 39) := Lib.hid (by
    have := blk_new (w.alloc (.cells #[.int .i8 m.kd, .int .i64 m.f, .int .i64 m.t, .int .i64 m.te, .int .i64 m.ix, .int .i64 m.la, .int .i64 m.co, .bool m.ok, .slice none 0 0, .int .i64 m.si, .int .i64 m.st, .int .u8 m.sc, .slice none 0 0, .slice none 0 0] 39)) #[.int .i8 0, .int .i64 0, .int .i64 0, .int .i64 0, .int .i64 0, .int .i64 0, .int .i64 0, .bool false, .slice none 0 0, .int .i64 0, .int .i64 0, .int .u8 0, .slice none 0 0, .slice none 0 0] 39
    rw [World.size_alloc] at this
    rw [hW1, hN]
    exact this)
  have HB1 := Lib.hid hB1
  have HN := Lib.hid hN
  have c0 : W1.cell? ⟨N, 0, none⟩ = some (.int .i8 m.kd) := cell_at HK.out 0
  have c1 : W1.cell? ⟨N, 1, none⟩ = some (.int .i64 m.f) := cell_at HK.out 1
  have c2 : W1.cell? ⟨N, 2, none⟩ = some (.int .i64 m.t) := cell_at HK.out 2
  have c3 : W1.cell? ⟨N, 3, none⟩ = some (.int .i64 m.te) := cell_at HK.out 3
  have c4 : W1.cell? ⟨N, 4, none⟩ = some (.int .i64 m.ix) := cell_at HK.out 4
  have c5 : W1.cell? ⟨N, 5, none⟩ = some (.int .i64 m.la) := cell_at HK.out 5
  have c6 : W1.cell? ⟨N, 6, none⟩ = some (.int .i64 m.co) := cell_at HK.out 6
  have c7 : W1.cell? ⟨N, 7, none⟩ = some (.bool m.ok) := cell_at HK.out 7
  have c8 : W1.cell? ⟨N, 8, none⟩ = some (.slice none 0 0) := cell_at HK.out 8
  have c9 : W1.cell? ⟨N, 9, none⟩ = some (.int .i64 m.si) := cell_at HK.out 9
  have c10 : W1.cell? ⟨N, 10, none⟩ = some (.int .i64 m.st) := cell_at HK.out 10
  have c11 : W1.cell? ⟨N, 11, none⟩ = some (.int .u8 m.sc) := cell_at HK.out 11
  have c12 : W1.cell? ⟨N, 12, none⟩ = some (.slice none 0 0) := cell_at HK.out 12
  have c13 : W1.cell? ⟨N, 13, none⟩ = some (.slice none 0 0) := cell_at HK.out 13
  have d0 : W1.cell? ⟨N + 1, 0, none⟩ = some (.int .i8 0) := cell_at HR.out 0
  have d1 : W1.cell? ⟨N + 1, 1, none⟩ = some (.int .i64 0) := cell_at HR.out 1
  have d2 : W1.cell? ⟨N + 1, 2, none⟩ = some (.int .i64 0) := cell_at HR.out 2
  have d3 : W1.cell? ⟨N + 1, 3, none⟩ = some (.int .i64 0) := cell_at HR.out 3
  have d4 : W1.cell? ⟨N + 1, 4, none⟩ = some (.int .i64 0) := cell_at HR.out 4
  have d5 : W1.cell? ⟨N + 1, 5, none⟩ = some (.int .i64 0) := cell_at HR.out 5
  have d6 : W1.cell? ⟨N + 1, 6, none⟩ = some (.int .i64 0) := cell_at HR.out 6
  have d7 : W1.cell? ⟨N + 1, 7, none⟩ = some (.bool false) := cell_at HR.out 7
  have d8 : W1.cell? ⟨N + 1, 8, none⟩ = some (.slice none 0 0) := cell_at HR.out 8
  have d9 : W1.cell? ⟨N + 1, 9, none⟩ = some (.int .i64 0) := cell_at HR.out 9
  have d10 : W1.cell? ⟨N + 1, 10, none⟩ = some (.int .i64 0) := cell_at HR.out 10
  have d11 : W1.cell? ⟨N + 1, 11, none⟩ = some (.int .u8 0) := cell_at HR.out 11
  have d12 : W1.cell? ⟨N + 1, 12, none⟩ = some (.slice none 0 0) := cell_at HR.out 12
  have d13 : W1.cell? ⟨N + 1, 13, none⟩ = some (.slice none 0 0) := cell_at HR.out 13
  have zk : ∀ j, W1.frozen? ⟨N, j, none⟩ = false := fun j => free_at HK.out j
  have zr : ∀ j, W1.frozen? ⟨N + 1, j, none⟩ = false := fun j => free_at HR.out j
  have hl1 : N < W1.heap.size := HK.out.lt
  have hl2 : N + 1 < W1.heap.size := HR.out.lt
  have e8 : W1.setCell ⟨N, 8, none⟩ (.slice none 0 0) = W1.setCell ⟨N, 8, none⟩ (.slice none 0 0) := rfl
  clear hB1 e8
  go_enter Try.func35, Try.ntmps35
  go_upto_region 1 with fail
  rw [← hN, ← hW1]
  clear hN hW1
  go_wp2_with (first
    | (go_at_call 45; refine (eachE_nil _ _).mono ?_; rintro e w' ⟨rfl, rfl⟩)
    | (go_at_call 47; refine (cloneB_nil _).mono ?_; rintro e w' ⟨rfl, rfl⟩))
  obtain ⟨L, hL⟩ : ∃ L : List Value, L = [.int .i8 m.kd, .int .i64 m.f, .int .i64 m.t, .int .i64 m.te, .int .i64 m.ix, .int .i64 m.la, .int .i64 m.co, .bool m.ok, .slice none 0 0, .int .i64 m.si, .int .i64 m.st, .int .u8 m.sc, .slice none 0 0, .slice none 0 0] := ⟨_, rfl⟩
  obtain ⟨W2, hW2⟩ : ∃ W2, W2 = ((W1.setCell ⟨N, 8, none⟩ (.slice none 0 0)).setCell ⟨N, 12, none⟩ (.slice none 0 0)).setCell ⟨N, 13, none⟩ (.slice none 0 0) := ⟨_, rfl⟩
  rw [← hW2]
  have hr2 : Blk W2 (N + 1) #[.int .i8 0, .int .i64 0, .int .i64 0, .int .i64 0, .int .i64 0, .int .i64 0, .int .i64 0, .bool false, .slice none 0 0, .int .i64 0, .int .i64 0, .int .u8 0, .slice none 0 0, .slice none 0 0] 39 := by rw [hW2]; exact ((HR.out.ne ⟨N, 8, none⟩ (by simp) _).ne ⟨N, 12, none⟩ (by simp) _).ne ⟨N, 13, none⟩ (by simp) _
  have hb2 : Below N w W2 := by rw [hW2]; exact ((HB1.out.setCell (p := ⟨N, 8, none⟩) (Nat.le_refl _) _).setCell (p := ⟨N, 12, none⟩) (Nat.le_refl _) _).setCell (p := ⟨N, 13, none⟩) (Nat.le_refl _) _
  obtain ⟨WS, hWS⟩ : ∃ WS, WS = W2.setCells (N + 1) 0 L := ⟨_, rfl⟩
  have hch := hWS
  rw [hL] at hch
  simp only [World.setCells, Nat.zero_add, Nat.reduceAdd] at hch
  rw [← hch]
  clear hch
  have hk := stC_blk hr2 L (by rw [hL]; rfl)
  have hfr := stC_fr (N + 1) L 0 W2
  rw [← hWS] at hk hfr
  rw [hL] at hk
  have hB : Below N w WS := hb2.trans (hfr.below (by have := hb2.size; have := HN.out; omega) (by simp))
  have r0 : WS.cell? ⟨N + 1, 0, none⟩ = some (.int .i8 m.kd) := cell_at hk 0
  have r1 : WS.cell? ⟨N + 1, 1, none⟩ = some (.int .i64 m.f) := cell_at hk 1
  have r2 : WS.cell? ⟨N + 1, 2, none⟩ = some (.int .i64 m.t) := cell_at hk 2
  have r3 : WS.cell? ⟨N + 1, 3, none⟩ = some (.int .i64 m.te) := cell_at hk 3
  have r4 : WS.cell? ⟨N + 1, 4, none⟩ = some (.int .i64 m.ix) := cell_at hk 4
  have r5 : WS.cell? ⟨N + 1, 5, none⟩ = some (.int .i64 m.la) := cell_at hk 5
  have r6 : WS.cell? ⟨N + 1, 6, none⟩ = some (.int .i64 m.co) := cell_at hk 6
  have r7 : WS.cell? ⟨N + 1, 7, none⟩ = some (.bool m.ok) := cell_at hk 7
  have r8 : WS.cell? ⟨N + 1, 8, none⟩ = some (.slice none 0 0) := cell_at hk 8
  have r9 : WS.cell? ⟨N + 1, 9, none⟩ = some (.int .i64 m.si) := cell_at hk 9
  have r10 : WS.cell? ⟨N + 1, 10, none⟩ = some (.int .i64 m.st) := cell_at hk 10
  have r11 : WS.cell? ⟨N + 1, 11, none⟩ = some (.int .u8 m.sc) := cell_at hk 11
  have r12 : WS.cell? ⟨N + 1, 12, none⟩ = some (.slice none 0 0) := cell_at hk 12
  have r13 : WS.cell? ⟨N + 1, 13, none⟩ = some (.slice none 0 0) := cell_at hk 13
  have HB := Lib.hid (HN.out ▸ hB)
  clear hW2 hWS hL hr2 hb2 hk hfr hB
  exact bodyPost_ret (v := .agg #[.int .i8 m.kd, .int .i64 m.f, .int .i64 m.t, .int .i64 m.te, .int .i64 m.ix, .int .i64 m.la, .int .i64 m.co, .bool m.ok, .slice none 0 0, .int .i64 m.si, .int .i64 m.st, .int .u8 m.sc, .slice none 0 0, .slice none 0 0]) (by simp [results, Try.results35, go_sem, r0, r1, r2, r3, r4, r5, r6, r7, r8, r9, r10, r11, r12, r13]) rfl ⟨rfl, HB.out⟩
end Go.Proofs.Ytokhdpokcfkfpaa
