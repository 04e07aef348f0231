/-
  An agent's tokens; its ask again; a lease's report.
-/
import Derived.Test.YtlgjdiadohhleaaAg3
namespace Go.Proofs.Ytlgjdiadohhleaa
open Go.RowKit
set_option linter.unusedSimpArgs false
set_option linter.unusedVariables false

def Hd.tok (H : Hd) (te : Int) : Int := match H with
  | .gone _ _ => 0
  | .one _ _ x => if x.te = te then x.le else 0
/-- what a lease is in these laws -/
def Hd.ok (H : Hd) : Prop := match H with
  | .gone _ _ => True
  | .one _ _ x => 0 ≤ x.le ∧ 0 ≤ x.sp ∧ x.le + x.sp ≤ 1000000 ∧ 0 ≤ x.re ∧ x.re ≤ x.sp
theorem Hd.ok.tick {H : Hd} (h : H.ok) (s : Ag) (t : Int) : (H.tick s t).ok := by
  cases H with
  | gone a c => exact h
  | one b c x =>
    show Hd.ok (if decide (max s.now t < x.un) then _ else _)
    split
    · exact h
    · trivial

set_option maxRecDepth 100000 in
set_option maxHeartbeats 4000000 in
theorem tokens_any (g : Nat) (s : Ag) (H : Hd) (te t : Int) (w : World) (h : AgAt w g s H) (hok : H.ok) :
    Calls Try.prog 19 #[.pointer (some ⟨g, 0, none⟩), .int .i64 te, .int .i64 t] w fun e w' => e = .returned (.int .i64 ((H.tick s t).tok te)) ∧ AgAt w' g (s.tick t) (H.tick s t) ∧ Fr (g :: H.bl) w w' := by
  have AT := Lib.hid (at_any g s H t w h)
  have hok2 := hok.tick s t
  have HBL := Lib.hid (keep_bl H fun x => decide (max s.now t < x.un))
  change Hid (∀ x ∈ (H.tick s t).bl, x ∈ H.bl) at HBL
  obtain ⟨H2, hH2⟩ : ∃ H2, H2 = H.tick s t := ⟨_, rfl⟩
  rw [← hH2] at AT hok2 HBL ⊢
  obtain ⟨s2, hs2⟩ : ∃ s2, s2 = s.tick t := ⟨_, rfl⟩
  rw [← hs2] at AT ⊢
  clear h hok hH2 hs2
  go_enter Try.func19, Try.ntmps19
  go_wp2_with fail
  go_at_call 49
  refine Calls.mono AT.out ?_
  rintro e W1 ⟨rfl, h1, hf1⟩
  have HF := Lib.hid hf1
  have HA := Lib.hid h1
  have c11 : W1.cell? ⟨g, 11, none⟩ = some H2.val := cell_at h1.blk 11
  clear AT hf1
  cases H2 with
  | gone a c =>
    have hm : c ≤ maxLen := h1.held
    unfold maxLen at hm
    simp only [Hd.val] at c11
    clear h1
    go_wp2_with fail
    refine wp_loop_rounds 1 ?_
    rw [rounds_succ]
    go_wp2_with fail
    go_ret
    exact ⟨rfl, HA.out, HF.out⟩
  | one b c x =>
    obtain ⟨h2, h3⟩ := h1.held
    have hm := h2.max
    unfold maxLen at hm
    simp only [Hd.val] at c11
    have c0 : W1.cell? ⟨b, 0, none⟩ = some (.int .i64 x.id) := h2.cell 0 (by omega)
    have c1 : W1.cell? ⟨b, 1, none⟩ = some (.int .i64 x.te) := h2.cell 1 (by omega)
    have c2 : W1.cell? ⟨b, 2, none⟩ = some (.int .i64 x.le) := h2.cell 2 (by omega)
    have c3 : W1.cell? ⟨b, 3, none⟩ = some (.int .i64 x.un) := h2.cell 3 (by omega)
    have c4 : W1.cell? ⟨b, 4, none⟩ = some (.int .i64 x.sp) := h2.cell 4 (by omega)
    have c5 : W1.cell? ⟨b, 5, none⟩ = some (.int .i64 x.re) := h2.cell 5 (by omega)
    have hl : b < W1.heap.size := h2.lt
    have hg : g < W1.heap.size := h1.blk.lt
    obtain ⟨k1, k2, k3, _⟩ := hok2
    have e1 : IntKind.i64.wrap x.le = x.le := IntWalk.i64_in _ (by omega)
    have e2 : IntKind.i64.wrap (0 + x.le) = x.le := IntWalk.i64_in _ (by omega) |>.trans (by omega)
    clear h1 h2 h3
    by_cases hte : x.te = te
    · have hb : (x.te == te) = true := by simp [hte]
      have HT := Lib.hid (show Hd.tok (.one b c x) te = x.le from if_pos hte)
      clear hte
      go_wp2_with fail
      refine wp_loop_rounds 2 ?_
      rw [rounds_succ]
      go_wp2_with fail
      rw [rounds_succ]
      go_wp2_with fail
      go_ret
      exact ⟨by rw [HT.out]; rfl, HA.out.below ((Below.refl _ _).alloc (Nat.le_refl _) _), HF.out.alloc _⟩
    · have hb : (x.te == te) = false := by simp [hte]
      have HT := Lib.hid (show Hd.tok (.one b c x) te = 0 from if_neg hte)
      clear hte
      go_wp2_with fail
      refine wp_loop_rounds 2 ?_
      rw [rounds_succ]
      go_wp2_with fail
      rw [rounds_succ]
      go_wp2_with fail
      go_ret
      exact ⟨by rw [HT.out]; rfl, HA.out.below ((Below.refl _ _).alloc (Nat.le_refl _) _), HF.out.alloc _⟩

theorem setCells_pt {b : Nat} {t : TypeId} : ∀ (L : List Value) (o : Nat) {W : World} {cs : Array Value}, Blk W b cs t → o + L.length ≤ cs.size → ∃ cs', Blk (W.setCells b o L) b cs' t ∧ cs'.size = cs.size ∧ (∀ j, j < o → cs'[j]? = cs[j]?) ∧ ∀ i, i < L.length → cs'[o + i]? = L[i]?
  | [], o, W, cs, h, _ => ⟨cs, h, rfl, fun _ _ => rfl, fun i hi => absurd hi (Nat.not_lt_zero _)⟩
  | v :: r, o, W, cs, h, hl => by
    have hl' : o + (r.length + 1) ≤ cs.size := hl
    obtain ⟨cs', k1, k2, k3, k4⟩ := setCells_pt r (o + 1) (h.set o v) (by simp; omega)
    refine ⟨cs', k1, by simpa using k2, fun j hj => ?_, fun i hi => ?_⟩
    · rw [k3 j (by omega), Array.getElem?_setIfInBounds, if_neg (by omega)]
    · rcases Nat.eq_zero_or_pos i with rfl | hp
      · rw [Nat.add_zero, k3 o (by omega), Array.getElem?_setIfInBounds, if_pos rfl, if_pos (by omega)]
        rfl
      · obtain ⟨m, rfl⟩ : ∃ m, i = m + 1 := ⟨i - 1, by omega⟩
        have := k4 m (by simpa using hi)
        rw [show o + (m + 1) = o + 1 + m by omega, this]
        rfl
theorem setCells_cell {W : World} {b : Nat} {cs : Array Value} {t : TypeId} (h : Blk W b cs t) (L : List Value) (o : Nat) (hl : o + L.length ≤ cs.size) (j : Nat) (hj : j < L.length) : (W.setCells b o L).cell? ⟨b, o + j, none⟩ = L[j]? := by
  obtain ⟨cs', k1, k2, k3, k4⟩ := setCells_pt L o h hl
  exact (cell_at k1 _).trans (k4 j hj)
theorem setCells_blk {W : World} {b : Nat} {cs : Array Value} {t : TypeId} (h : Blk W b cs t) (L : List Value) (hl : L.length = cs.size) : Blk (W.setCells b 0 L) b L.toArray t := by
  obtain ⟨cs', k1, k2, k3, k4⟩ := setCells_pt L 0 h (by omega)
  have : cs' = L.toArray := by
    apply Array.ext_getElem?
    intro i
    by_cases hi : i < L.length
    · have := k4 i hi
      rw [Nat.zero_add] at this
      rw [this]
      simp
    · rw [Array.getElem?_eq_none (by omega), Array.getElem?_eq_none (by simp; omega)]
  rw [this] at k1
  exact k1
/-- a command as a value, of the parts that an agent sets -/
def cmdL (k : Int) (nu te sh ep le sz sp : Int) (cl : Bool) : Array Value := #[.int .i8 k, .int .i64 0, .int .i64 nu, .int .i64 te, .int .i64 0, .int .i64 0, .int .i64 sh, .int .i64 ep, .int .i64 le, .int .i64 sz, .int .i64 sp, .bool cl, .slice none 0 0]

set_option maxRecDepth 100000 in
set_option maxHeartbeats 4000000 in
theorem report_any (g : Nat) (s : Ag) (v : Value) (x : Lz) (cl : Bool) (w : World) (h : Blk w g (s.cells v) 107) :
    Calls Try.prog 54 #[.pointer (some ⟨g, 0, none⟩), .agg #[.int .i64 x.id, .int .i64 x.te, .int .i64 x.le, .int .i64 x.un, .int .i64 x.sp, .int .i64 x.re], .bool cl] w fun e w' => e = .returned (.agg (cmdL 5 0 0 s.sh s.ep x.id 0 x.sp cl)) ∧ Below w.heap.size w w' := by
  obtain ⟨N, hN⟩ : ∃ N, N = w.heap.size := ⟨_, rfl⟩
  obtain ⟨W1, hW1⟩ : ∃ W1, W1 = (w.alloc (.cells #[.int .i64 x.id, .int .i64 x.te, .int .i64 x.le, .int .i64 x.un, .int .i64 x.sp, .int .i64 x.re] 111)).alloc (.cells #[.int .i8 0, .int .i64 0, .int .i64 0, .int .i64 0, .int .i64 0, .int .i64 0, .int .i64 0, .int .i64 0, .int .i64 0, .int .i64 0, .int .i64 0, .bool false, .slice none 0 0] 31) := ⟨_, rfl⟩
  have hB1 : Below N w W1 := by rw [hW1, hN]; exact ((Below.refl _ _).alloc (Nat.le_refl _) _).alloc (by simp) _
  have b0 : Blk W1 N #[.int .i64 x.id, .int .i64 x.te, .int .i64 x.le, .int .i64 x.un, .int .i64 x.sp, .int .i64 x.re] 111 := by rw [hW1, hN]; exact (blk_new _ _ _).alloc _
  have b1 : Blk W1 (N + 1) #[.int .i8 0, .int .i64 0, .int .i64 0, .int .i64 0, .int .i64 0, .int .i64 0, .int .i64 0, .int .i64 0, .int .i64 0, .int .i64 0, .int .i64 0, .bool false, .slice none 0 0] 31 := by
    have := blk_new (w.alloc (.cells #[.int .i64 x.id, .int .i64 x.te, .int .i64 x.le, .int .i64 x.un, .int .i64 x.sp, .int .i64 x.re] 111)) #[.int .i8 0, .int .i64 0, .int .i64 0, .int .i64 0, .int .i64 0, .int .i64 0, .int .i64 0, .int .i64 0, .int .i64 0, .int .i64 0, .int .i64 0, .bool false, .slice none 0 0] 31
    rw [World.size_alloc] at this
    rw [hW1, hN]
    exact this
  have h1 := h.step (hN ▸ hB1)
  have HB1 := Lib.hid hB1
  have HN := Lib.hid hN
  have HK := Lib.hid b1
  have c0 : W1.cell? ⟨g, 0, none⟩ = some (.int .i64 s.sh) := cell_at h1 0
  have c1 : W1.cell? ⟨g, 1, none⟩ = some (.int .i64 s.ep) := cell_at h1 1
  have d0 : W1.cell? ⟨N, 0, none⟩ = some (.int .i64 x.id) := cell_at b0 0
  have d4 : W1.cell? ⟨N, 4, none⟩ = some (.int .i64 x.sp) := cell_at b0 4
  have hl := b1.lt
  clear h h1 b0 b1 hB1
  go_enter Try.func54, Try.ntmps54
  go_upto_region 1 with fail
  rw [← hN, ← hW1]
  clear hN hW1
  have zs : ∀ j, W1.frozen? ⟨N + 1, j, none⟩ = false := fun j => free_at HK.out j
  have o0 : W1.cell? ⟨N + 1, 0, none⟩ = some (.int .i8 0) := cell_at HK.out 0
  have o1 : W1.cell? ⟨N + 1, 1, none⟩ = some (.int .i64 0) := cell_at HK.out 1
  have o2 : W1.cell? ⟨N + 1, 2, none⟩ = some (.int .i64 0) := cell_at HK.out 2
  have o3 : W1.cell? ⟨N + 1, 3, none⟩ = some (.int .i64 0) := cell_at HK.out 3
  have o4 : W1.cell? ⟨N + 1, 4, none⟩ = some (.int .i64 0) := cell_at HK.out 4
  have o5 : W1.cell? ⟨N + 1, 5, none⟩ = some (.int .i64 0) := cell_at HK.out 5
  have o6 : W1.cell? ⟨N + 1, 6, none⟩ = some (.int .i64 0) := cell_at HK.out 6
  have o7 : W1.cell? ⟨N + 1, 7, none⟩ = some (.int .i64 0) := cell_at HK.out 7
  have o8 : W1.cell? ⟨N + 1, 8, none⟩ = some (.int .i64 0) := cell_at HK.out 8
  have o9 : W1.cell? ⟨N + 1, 9, none⟩ = some (.int .i64 0) := cell_at HK.out 9
  have o10 : W1.cell? ⟨N + 1, 10, none⟩ = some (.int .i64 0) := cell_at HK.out 10
  have o11 : W1.cell? ⟨N + 1, 11, none⟩ = some (.bool false) := cell_at HK.out 11
  have o12 : W1.cell? ⟨N + 1, 12, none⟩ = some (.slice none 0 0) := cell_at HK.out 12
  go_region
  all_goals
    obtain ⟨L, hL⟩ : ∃ L : List Value, L = [.int .i8 5, .int .i64 0, .int .i64 0, .int .i64 0, .int .i64 0, .int .i64 0, .int .i64 s.sh, .int .i64 s.ep, .int .i64 x.id, .int .i64 0, .int .i64 x.sp, .bool cl, .slice none 0 0] := ⟨_, rfl⟩
    obtain ⟨WS, hWS⟩ : ∃ WS, WS = W1.setCells (N + 1) 0 L := ⟨_, rfl⟩
    have hch := hWS
    rw [hL] at hch
    simp only [World.setCells, Nat.zero_add, Nat.reduceAdd] at hch
    rw [← hch]
    clear hch
    obtain ⟨WF, hWF⟩ : ∃ WF, WF = WS.drew := ⟨_, rfl⟩
    rw [← hWF]
    have hc : ∀ j, j < 13 → (W1.setCells (N + 1) 0 L).cell? ⟨N + 1, j, none⟩ = L[j]? := fun j hj => by
      have := setCells_cell HK.out L 0 (by rw [hL]; exact Nat.le_refl _) j (by rw [hL]; exact hj)
      rwa [Nat.zero_add] at this
    have hBF : Below N w WF := by
      have hfr := ((Fr.of_below (HN.out ▸ HB1.out)).mono (l' := [N + 1]) (by simp)).trans (setCells_fr (N + 1) L 0 W1) (fun y hy => .inl hy)
      rw [← hWS] at hfr
      rw [hWF]
      exact hfr.drew.below (by have := HN.out; omega) (by simp)
    rw [← hWS, hL] at hc
    have r0 : WF.cell? ⟨N + 1, 0, none⟩ = some (.int .i8 5) := by rw [hWF]; exact hc 0 (by omega)
    have r1 : WF.cell? ⟨N + 1, 1, none⟩ = some (.int .i64 0) := by rw [hWF]; exact hc 1 (by omega)
    have r2 : WF.cell? ⟨N + 1, 2, none⟩ = some (.int .i64 0) := by rw [hWF]; exact hc 2 (by omega)
    have r3 : WF.cell? ⟨N + 1, 3, none⟩ = some (.int .i64 0) := by rw [hWF]; exact hc 3 (by omega)
    have r4 : WF.cell? ⟨N + 1, 4, none⟩ = some (.int .i64 0) := by rw [hWF]; exact hc 4 (by omega)
    have r5 : WF.cell? ⟨N + 1, 5, none⟩ = some (.int .i64 0) := by rw [hWF]; exact hc 5 (by omega)
    have r6 : WF.cell? ⟨N + 1, 6, none⟩ = some (.int .i64 s.sh) := by rw [hWF]; exact hc 6 (by omega)
    have r7 : WF.cell? ⟨N + 1, 7, none⟩ = some (.int .i64 s.ep) := by rw [hWF]; exact hc 7 (by omega)
    have r8 : WF.cell? ⟨N + 1, 8, none⟩ = some (.int .i64 x.id) := by rw [hWF]; exact hc 8 (by omega)
    have r9 : WF.cell? ⟨N + 1, 9, none⟩ = some (.int .i64 0) := by rw [hWF]; exact hc 9 (by omega)
    have r10 : WF.cell? ⟨N + 1, 10, none⟩ = some (.int .i64 x.sp) := by rw [hWF]; exact hc 10 (by omega)
    have r11 : WF.cell? ⟨N + 1, 11, none⟩ = some (.bool cl) := by rw [hWF]; exact hc 11 (by omega)
    have r12 : WF.cell? ⟨N + 1, 12, none⟩ = some (.slice none 0 0) := by rw [hWF]; exact hc 12 (by omega)
    have HBF := Lib.hid (HN.out ▸ hBF)
    clear hWF hWS hc hL hBF c0 c1 d0 d4 zs o0 o1 o2 o3 o4 o5 o6 o7 o8 o9 o10 o11 o12
    go_wp2_with fail
    exact bodyPost_ret (v := .agg #[.int .i8 5, .int .i64 0, .int .i64 0, .int .i64 0, .int .i64 0, .int .i64 0, .int .i64 s.sh, .int .i64 s.ep, .int .i64 x.id, .int .i64 0, .int .i64 x.sp, .bool cl, .slice none 0 0]) (by simp [results, Try.results54, go_sem, r0, r1, r2, r3, r4, r5, r6, r7, r8, r9, r10, r11, r12]) rfl ⟨rfl, HBF.out⟩
end Go.Proofs.Ytlgjdiadohhleaa
