/-
  A pick: the program, walked.
-/
import Derived.Test.YtnainlemnkfpkaaFa7
namespace Go.Proofs.Ytnainlemnkfpkaa
open Go.RowKit
set_option linter.unusedSimpArgs false
set_option linter.unusedVariables false

/-- another block set -/
theorem EaAt.other {W W' : World} {M g fo ft n c1 c2 : Nat} {wt : Nat → Int} {al : Int} {s : FS} {bF bH bR : Nat} {a : Option Addr} {cap : Nat} {vr : Value} {ob : Option Nat} {R : Nat → Bool} {k NB : Nat} {cs : Array Value} {ty : TypeId} (h : EaAt W M g fo ft n c1 c2 wt al s bF bH bR a cap vr ob R k) (hf : Fr [NB] W W') (hb : Blk W NB cs ty)
    (t1 : ty ≠ 60) (t2 : ty ≠ 63) (t3 : ty ≠ 80) (t4 : ty ≠ 25) (t5 : ty ≠ 32) (t6 : ty ≠ 41) (t7 : ty ≠ 4) (_t8 : ty ≠ 3) : EaAt W' M g fo ft n c1 c2 wt al s bF bH bR a cap vr ob R k := by
  have ne : ∀ {q : Nat} {c : Array Value} {t : TypeId}, Blk W q c t → ty ≠ t → q ∉ [NB] := fun {q c t} h1 h2 hm => by
    obtain rfl : q = NB := by simpa using hm
    have := h1.symm.trans hb
    injection this with e'
    injection e' with _ e2
    exact h2 e2.symm
  obtain ⟨cf, hcf, _⟩ := h.fr.fl
  obtain ⟨ct, hct⟩ := blk_row h.fr.tg
  refine ⟨h.fr.fr hf (ne h.fr.blk t1) (ne hcf t2) (ne hct t3), (hf.block bF h.hF.lt (ne h.hF t4)).trans h.hF, (hf.block bH h.hH.lt (ne h.hH t5)).trans h.hH, (hf.block bR h.hR.lt (ne h.hR t6)).trans h.hR, h.row.congr fun q e => ?_, h.hO, h.ge⟩
  subst e
  obtain ⟨cb, hcb⟩ := blk_row h.row
  exact hf.block q hcb.lt (ne hcb t7)
structure PkP (M g fo ft n c1 : Nat) (wt : Nat → Int) (al : Int) (s' : FS) (w w' : World) : Prop where
  ex : ∃ ft' c', FrAt w' M g fo ft' n c1 c' wt al s' ∧ Fr [g, fo, ft] w w' ∧ (ft' = ft ∨ w.heap.size ≤ ft')
structure Pk5 (W5 W : World) (NB ft' n c' : Nat) (now : Int) (T : Nat → TagsE) : Prop where
  tb : Blk W NB #[.int .i64 now, .slice (some ⟨ft', 0, none⟩) n c'] 39
  row : Row W (.slice (some ⟨ft', 0, none⟩) n c') (some ft') 80 2 n (tagsL T n)
  b : Below W5.heap.size W5 W
  ge : W5.heap.size ≤ ft'
def kI (o : Option Nat) : Int := match o with
  | some k => (k : Int)
  | none => 0
set_option maxRecDepth 100000 in
set_option maxHeartbeats 16000000 in
theorem fpick_good (M g fo ft n c1 c2 : Nat) (wt : Nat → Int) (al : Int) (s : FS) (a : Option Addr) (cap hb ho : Nat) (E : Nat → HdE) (w : World) (h : FrAt w M g fo ft n c1 c2 wt al s) (hE : ∀ W', BG M w W' → HdIn W' a n cap hb ho E) (hm : okHd (hsz E) n) (hi : Inv n s) (hw : WtOk n wt al) (h0 : 0 < n) :
    Calls Try.prog 11 #[.pointer (some ⟨g, 0, none⟩), .slice a n cap] w fun e w' => e = .returned (.tuple #[.int .i64 (kI (pkK n wt al (hsz E) s)), .bool (pkK n wt al (hsz E) s).isSome]) ∧ PkP M g fo ft n c1 wt al (pkS n wt al (hsz E) s) w w' := by
  have hx := hE w (BG.refl _ _)
  have m1 := hx.le
  have m2 := hx.max
  unfold maxLen at m2
  have hn8 := hi.n8
  have hMw := h.size
  obtain ⟨N, hN⟩ : ∃ N, N = w.heap.size := ⟨_, rfl⟩
  obtain ⟨W1, hW1⟩ : ∃ W, W = (w.alloc (.cells #[.pointer (some ⟨g, 0, none⟩)] 25)).alloc (.cells #[.slice a n cap] 32) := ⟨_, rfl⟩
  have hB1 : Below w.heap.size w W1 := by rw [hW1]; exact ((Below.refl _ _).alloc (Nat.le_refl _) _).alloc (by simp) _
  have p1 : Blk W1 N #[.pointer (some ⟨g, 0, none⟩)] 25 := by rw [hW1, hN]; exact (blk_new _ _ _).alloc _
  have q1 : Blk W1 (N + 1) #[.slice a n cap] 32 := by
    rw [hW1, hN]
    have := blk_new (w.alloc (.cells #[.pointer (some ⟨g, 0, none⟩)] 25)) #[.slice a n cap] 32
    rw [World.size_alloc] at this
    exact this
  have HP1 := Lib.hid p1
  have HQ1 := Lib.hid q1
  have HF1 := Lib.hid (h.step hB1)
  have HB1 := Lib.hid hB1
  have HE := Lib.hid hE
  have HM := Lib.hid hm
  have HI := Lib.hid hi
  have HW := Lib.hid hw
  have H0 := Lib.hid h0
  have HMW := Lib.hid hMw
  have HN8 := Lib.hid hn8
  have HNN : Hid (w.heap.size ≤ N) := Lib.hid (by omega)
  clear h hE hm hi hw hx hMw hB1 p1 q1
  go_enter Try.func11, Try.ntmps11
  go_upto_region 1 with fail
  rw [← hN, ← hW1]
  clear hN hW1
  refine wp_region_held_drew (S := fun X => X.cell? ⟨N, 0, none⟩ = some (.pointer (some ⟨g, 0, none⟩)) ∧ X.cell? ⟨N + 1, 0, none⟩ = some (.slice a n cap) ∧ X.cell? ⟨g, 0, none⟩ = some (.slice (some ⟨fo, 0, none⟩) n c1)) (by kernel_rfl) ⟨cell_at HP1.out 0, cell_at HQ1.out 0, cell_at HF1.out.blk 0⟩ (fun hHeld => ?_)
  try simp only [Act.put, List.setIfInBounds_toArray, List.set_cons_zero, List.set_cons_succ]
  have Bz := belowN (Below.refl W1.heap.size W1) 1
  have HP2 := Lib.hid (show Blk W1.drew N #[.pointer (some ⟨g, 0, none⟩)] 25 from HP1.out.step Bz)
  have HQ2 := Lib.hid (show Blk W1.drew (N + 1) #[.slice a n cap] 32 from HQ1.out.step Bz)
  have HF2 := Lib.hid (show FrAt W1.drew M g fo ft n c1 c2 wt al s from HF1.out.step Bz)
  have HB2 : Hid (Below w.heap.size w W1.drew) := Lib.hid (HB1.out.trans (Bz.mono HB1.out.size))
  clear Bz HP1 HQ1 HF1 HB1
  ((refine wpAnyH_take (i := 0) (v := ?_) (by (simp only [List.getElem?_toArray, List.getElem?_cons_succ, List.getElem?_cons_zero]); rfl) (by kernel_rfl) (by kernel_rfl) (by kernel_rfl) (by exact fun _ _ _ h => h) (Or.inl ⟨by rfl, ?_⟩) (by assumption) ?_); rotate_left; focus (intro wS hSw; (try dsimp only at hSw); go_simp; first | done | with_reducible rfl); try simp only [Act.put, List.setIfInBounds_toArray, List.set_cons_zero, List.set_cons_succ])
  ((refine wpAnyH_take (i := 1) (v := ?_) (by (simp only [List.getElem?_toArray, List.getElem?_cons_succ, List.getElem?_cons_zero]); rfl) (by kernel_rfl) (by kernel_rfl) (by kernel_rfl) (by exact fun _ _ _ h => h) (Or.inl ⟨by rfl, ?_⟩) (by assumption) ?_); rotate_left; focus (intro wS hSw; (try dsimp only at hSw); go_simp; first | done | with_reducible rfl); try simp only [Act.put, List.setIfInBounds_toArray, List.set_cons_zero, List.set_cons_succ])
  ((refine wpAnyH_take (i := 2) (v := ?_) (by (simp only [List.getElem?_toArray, List.getElem?_cons_succ, List.getElem?_cons_zero]); rfl) (by kernel_rfl) (by kernel_rfl) (by kernel_rfl) (by exact fun _ _ _ h => h) (Or.inl ⟨by rfl, ?_⟩) (by assumption) ?_); rotate_left; focus (intro wS hSw; (try dsimp only at hSw); go_simp; first | done | with_reducible rfl); try simp only [Act.put, List.setIfInBounds_toArray, List.set_cons_zero, List.set_cons_succ])
  ((refine wpAnyH_take (i := 3) (v := ?_) (by (simp only [List.getElem?_toArray, List.getElem?_cons_succ, List.getElem?_cons_zero]); rfl) (by kernel_rfl) (by kernel_rfl) (by kernel_rfl) (by exact fun _ _ _ h => h) (Or.inl ⟨by (go_simp; try rfl), ?_⟩) (by assumption) ?_); rotate_left; focus (intro wS hSw; (try dsimp only at hSw); go_simp; first | done | with_reducible rfl); try simp only [Act.put, List.setIfInBounds_toArray, List.set_cons_zero, List.set_cons_succ])
  ((refine wpAnyH_take (i := 4) (v := ?_) (by (simp only [List.getElem?_toArray, List.getElem?_cons_succ, List.getElem?_cons_zero]); rfl) (by kernel_rfl) (by kernel_rfl) (by kernel_rfl) (by exact fun _ _ _ h => h) (Or.inl ⟨by (go_simp; try rfl), ?_⟩) (by assumption) ?_); rotate_left; focus (intro wS hSw; (try dsimp only at hSw); go_simp; first | done | with_reducible rfl); try simp only [Act.put, List.setIfInBounds_toArray, List.set_cons_zero, List.set_cons_succ])
  ((refine wpAnyH_take (i := 5) (v := ?_) (by (simp only [List.getElem?_toArray, List.getElem?_cons_succ, List.getElem?_cons_zero]); rfl) (by kernel_rfl) (by kernel_rfl) (by kernel_rfl) (by exact fun _ _ _ h => h) (Or.inl ⟨by (go_simp; try rfl), ?_⟩) (by assumption) ?_); rotate_left; focus (intro wS hSw; (try dsimp only at hSw); go_simp; first | done | with_reducible rfl); try simp only [Act.put, List.setIfInBounds_toArray, List.set_cons_zero, List.set_cons_succ])
  ((refine wpAnyH_take (i := 6) (v := ?_) (by (simp only [List.getElem?_toArray, List.getElem?_cons_succ, List.getElem?_cons_zero]); rfl) (by kernel_rfl) (by kernel_rfl) (by kernel_rfl) (by exact fun _ _ _ h => h) (Or.inl ⟨by (go_simp; try rfl), ?_⟩) (by assumption) ?_); rotate_left; focus (intro wS hSw; (try dsimp only at hSw); go_simp; first | done | with_reducible rfl); try simp only [Act.put, List.setIfInBounds_toArray, List.set_cons_zero, List.set_cons_succ])
  ((refine wpAnyH_take (i := 7) (v := ?_) (by (simp only [List.getElem?_toArray, List.getElem?_cons_succ, List.getElem?_cons_zero]); rfl) (by kernel_rfl) (by kernel_rfl) (by kernel_rfl) (by exact fun _ _ _ h => h) (Or.inl ⟨by (go_simp; try rfl), ?_⟩) (by assumption) ?_); rotate_left; focus (intro wS hSw; (try dsimp only at hSw); go_simp; first | done | with_reducible rfl); try simp only [Act.put, List.setIfInBounds_toArray, List.set_cons_zero, List.set_cons_succ])
  ((refine wpAnyH_take (i := 8) (v := ?_) (by (simp only [List.getElem?_toArray, List.getElem?_cons_succ, List.getElem?_cons_zero]); rfl) (by kernel_rfl) (by kernel_rfl) (by kernel_rfl) (by exact fun _ _ _ h => h) (Or.inl ⟨by (go_simp; try rfl), ?_⟩) (by assumption) ?_); rotate_left; focus (intro wS hSw; (try dsimp only at hSw); go_simp; first | done | with_reducible rfl); try simp only [Act.put, List.setIfInBounds_toArray, List.set_cons_zero, List.set_cons_succ])
  ((refine wpAnyH_take (i := 9) (v := ?_) (by (simp only [List.getElem?_toArray, List.getElem?_cons_succ, List.getElem?_cons_zero]); rfl) (by kernel_rfl) (by kernel_rfl) (by kernel_rfl) (by exact fun _ _ _ h => h) (Or.inl ⟨by (go_simp; try rfl), ?_⟩) (by assumption) ?_); rotate_left; focus (intro wS hSw; (try dsimp only at hSw); go_simp; first | done | with_reducible rfl); try simp only [Act.put, List.setIfInBounds_toArray, List.set_cons_zero, List.set_cons_succ])
  ((refine wpAnyH_take (i := 10) (v := ?_) (by (simp only [List.getElem?_toArray, List.getElem?_cons_succ, List.getElem?_cons_zero]); rfl) (by kernel_rfl) (by kernel_rfl) (by kernel_rfl) (by exact fun _ _ _ h => h) (Or.inl ⟨by (go_simp; try rfl), ?_⟩) (by assumption) ?_); rotate_left; focus (intro wS hSw; (try dsimp only at hSw); go_simp; first | done | with_reducible rfl); try simp only [Act.put, List.setIfInBounds_toArray, List.set_cons_zero, List.set_cons_succ])
  ((refine wpAnyH_take (i := 11) (v := ?_) (by (simp only [List.getElem?_toArray, List.getElem?_cons_succ, List.getElem?_cons_zero]); rfl) (by kernel_rfl) (by kernel_rfl) (by kernel_rfl) (by exact fun _ _ _ h => h) (Or.inl ⟨by rfl, ?_⟩) (by assumption) ?_); rotate_left; focus (intro wS hSw; (try dsimp only at hSw); go_simp; first | done | with_reducible rfl); try simp only [Act.put, List.setIfInBounds_toArray, List.set_cons_zero, List.set_cons_succ])
  ((refine wpAnyH_take (i := 12) (v := ?_) (by (simp only [List.getElem?_toArray, List.getElem?_cons_succ, List.getElem?_cons_zero]); rfl) (by kernel_rfl) (by kernel_rfl) (by kernel_rfl) (by exact fun _ _ _ h => h) (Or.inl ⟨by rfl, ?_⟩) (by assumption) ?_); rotate_left; focus (intro wS hSw; (try dsimp only at hSw); go_simp; first | done | with_reducible rfl); try simp only [Act.put, List.setIfInBounds_toArray, List.set_cons_zero, List.set_cons_succ])
  ((refine wpAnyH_take (i := 13) (v := ?_) (by (simp only [List.getElem?_toArray, List.getElem?_cons_succ, List.getElem?_cons_zero]); rfl) (by kernel_rfl) (by kernel_rfl) (by kernel_rfl) (by exact fun _ _ _ h => h) (Or.inl ⟨by (go_simp; try rfl), ?_⟩) (by assumption) ?_); rotate_left; focus (intro wS hSw; (try dsimp only at hSw); go_simp; first | done | with_reducible rfl); try simp only [Act.put, List.setIfInBounds_toArray, List.set_cons_zero, List.set_cons_succ])
  refine wpAnyH_ready (rs := [14]) (by kernel_rfl) (by simp) ?_
  refine AllReadyH.cons (by (simp only [List.getElem?_toArray, List.getElem?_cons_succ, List.getElem?_cons_zero]); rfl) (fun K hK => ?_) AllReadyH.nil
  go_simp
  go_fit (contains_any a n cap hb ho E _ (HE.out _ (BG.new HB2.out HMW.out)))
  rintro e W3 ⟨B, rfl, hB3, hbad⟩
  obtain rfl : B = false := by
    rcases hbad with ⟨h, _⟩ | ⟨_, h⟩
    · exact h
    · exact absurd HM.out h
  clear hbad
  have HP3 := Lib.hid (HP2.out.step hB3)
  have HQ3 := Lib.hid (HQ2.out.step hB3)
  have HF3 := Lib.hid (HF2.out.step hB3)
  have HB3 := Lib.hid (HB2.out.trans (hB3.mono HB2.out.size))
  clear hB3 HP2 HQ2 HF2 HB2
  go_wp2_with fail
  refine hK.out _ _ ⟨cell_at HP3.out 0, cell_at HQ3.out 0, cell_at HF3.out.blk 0⟩ (fun hHeld => ?_)
  clear hK K
  try simp only [Act.put, List.setIfInBounds_toArray, List.set_cons_zero, List.set_cons_succ]
  ((refine wpAnyH_take (i := 15) (v := ?_) (by (simp only [List.getElem?_toArray, List.getElem?_cons_succ, List.getElem?_cons_zero]); rfl) (by kernel_rfl) (by kernel_rfl) (by kernel_rfl) (by exact fun _ _ _ h => h) (Or.inl ⟨by rfl, ?_⟩) (by assumption) ?_); rotate_left; focus (intro wS hSw; (try dsimp only at hSw); go_simp; first | done | with_reducible rfl); try simp only [Act.put, List.setIfInBounds_toArray, List.set_cons_zero, List.set_cons_succ])
  refine wpAnyH_done (by kernel_rfl) ?_ _
  try simp only [Act.put, List.setIfInBounds_toArray, List.set_cons_zero, List.set_cons_succ]
  obtain ⟨R, hR⟩ : ∃ R, R = W3.heap.size := ⟨_, rfl⟩
  obtain ⟨W4, hW4⟩ : ∃ W, W = W3.alloc (.cells #[.slice none 0 0] 41) := ⟨_, rfl⟩
  have hB4 : Below W3.heap.size W3 W4 := by rw [hW4]; exact alloc_b _ _
  have hb4 : Below w.heap.size w W4 := HB3.out.trans (hB4.mono HB3.out.size)
  have HEA := Lib.hid (show EaAt W4 M g fo ft n c1 c2 wt al s N (N + 1) R a cap (.slice none 0 0) none (rdy (hsz E)) 0 from ⟨HF3.out.step hB4, HP3.out.step hB4, HQ3.out.step hB4, by rw [hW4, hR]; exact blk_new _ _ _, Row.nil _ _ _, (fun q e => by cases e), by rw [hR]; exact HF3.out.size⟩)
  have HB4 := Lib.hid hb4
  have HRW : Hid (w.heap.size ≤ R) := Lib.hid (by rw [hR]; exact HB3.out.size)
  have HBG4 : Hid (BG M w W4) := Lib.hid (BG.new hb4 HMW.out)
  have EC := Lib.hid (each_ok M g fo ft n c1 c2 wt al s N (N + 1) R a cap hb ho E _ none W4 HEA.out (fun W' hB' => HE.out W' (HBG4.out.trans hB')) HM.out HI.out HW.out)
  clear hB4 hb4
  go_upto_region 4 with fail
  rw [← hR, ← hW4]
  clear hR hW4
  have f0 : W4.cell? ⟨N, 0, none⟩ = some (.pointer (some ⟨g, 0, none⟩)) := cell_at HEA.out.hF 0
  go_wp2_with fail
  go_at_call 25
  go_fit (EC.out)
  rintro e W5 ⟨rfl, ⟨ft5, c5, vr, ob, hx5, hf5, ht5, ho5⟩, hB5⟩
  obtain ⟨ra, rc, rfl, hbo⟩ := bools_row hx5.row
  have mr1 := hbo.le
  have mr2 := hbo.max
  unfold maxLen at mr2
  have HX5 := Lib.hid hx5
  have HF5 : Hid (Fr [g, fo, ft] w W5) := Lib.hid ((((Fr.of_below HB4.out).mono (l' := [g, fo, ft]) (by simp))).trans hf5 (fun x hx => by
    simp only [List.mem_cons, Option.toList_none, List.not_mem_nil, or_false] at hx ⊢
    rcases hx with h | h | h | h
    · exact .inl (.inl h)
    · exact .inl (.inr (.inl h))
    · exact .inl (.inr (.inr h))
    · exact .inr (by rw [h]; exact HRW.out)))
  have HT5 : Hid (ft5 = ft ∨ w.heap.size ≤ ft5) := Lib.hid (by
    rcases ht5 with h | h
    · exact .inl h
    · exact .inr (Nat.le_trans HB4.out.size h))
  obtain ⟨s1, hs1⟩ : ∃ s1, s1 = hearN wt al (hsz E) n s := ⟨_, rfl⟩
  have hi1 : Inv n s1 := by rw [hs1]; exact inv_hearN HW.out HM.out n HI.out (Nat.le_refl _)
  have hz1 : ∀ k, k < n → s1.z k = hsz E k := fun k hk => by rw [hs1]; exact hearN_z wt al (hsz E) s n k hk
  have HK1 : Hid (pkK n wt al (hsz E) s = (pickS n (hsz E) s1).map (·.1)) := Lib.hid (by rw [hs1]; rfl)
  have HS1 : Hid (pkS n wt al (hsz E) s = match pickS n (hsz E) s1 with | none => s1 | some p => p.2) := Lib.hid (by rw [hs1]; rfl)
  rw [← hs1] at HX5
  have HI1 := Lib.hid hi1
  have HZ1 := Lib.hid hz1
  have HBO := Lib.hid hbo
  clear hx5 hf5 ht5 ho5 hB5 hi1 hz1 hs1 hbo f0 EC HEA HB4 HBG4 HP3 HQ3 HF3 HB3
  cases hp1 : firstS (rdy (hsz E)) (ltS s1.T) n with
  | none =>
    have HKN : Hid (pkK n wt al (hsz E) s = none) := Lib.hid (by rw [HK1.out]; unfold pickS; rw [hp1]; rfl)
    have HSN : Hid (pkS n wt al (hsz E) s = s1) := Lib.hid (by rw [HS1.out]; unfold pickS; rw [hp1])
    have VP := Lib.hid (fun W hx hy => vpick_no s1.V ft5 n c5 s1.T ra rc (ob.getD 0) 0 (rdy (hsz E)) W hx HN8.out hy HI1.out.vok hp1)
    clear hp1
    go_upto_region 5 with fail
    go_cut [7, 8, 9] (fun v7 v8 v9 W => v9 = .bool false ∧ Below W5.heap.size W5 W)
    case first =>
      refine wp_region_held_drew (S := fun X => X.cell? ⟨N, 0, none⟩ = some (.pointer (some ⟨g, 0, none⟩)) ∧ X.cell? ⟨R, 0, none⟩ = some (.slice ra n rc) ∧ X.cell? ⟨g, 2, none⟩ = some (.int .i64 s1.V) ∧ X.cell? ⟨g, 3, none⟩ = some (.slice (some ⟨ft5, 0, none⟩) n c5)) (by kernel_rfl) ⟨cell_at HX5.out.hF 0, cell_at HX5.out.hR 0, cell_at HX5.out.fr.blk 2, cell_at HX5.out.fr.blk 3⟩ (fun hHeld => ?_)
      try simp only [Act.put, List.setIfInBounds_toArray, List.set_cons_zero, List.set_cons_succ]
      have Bz := belowN (Below.refl W5.heap.size W5) 1
      have HX6 := Lib.hid (show EaAt W5.drew M g fo ft5 n c1 c5 wt al s1 N (N + 1) R a cap (.slice ra n rc) ob (rdy (hsz E)) n from HX5.out.step Bz)
      have HBO6 := Lib.hid (show BoolsIn W5.drew ra n rc (ob.getD 0) 0 (rdy (hsz E)) from HBO.out.below Bz)
      have HB6 : Hid (Below W5.heap.size W5 W5.drew) := Lib.hid Bz
      clear Bz
      ((refine wpAnyH_take (i := 0) (v := ?_) (by (simp only [List.getElem?_toArray, List.getElem?_cons_succ, List.getElem?_cons_zero]); rfl) (by kernel_rfl) (by kernel_rfl) (by kernel_rfl) (by exact fun _ _ _ h => h) (Or.inl ⟨by rfl, ?_⟩) (by assumption) ?_); rotate_left; focus (intro wS hSw; (try dsimp only at hSw); go_simp; first | done | with_reducible rfl); try simp only [Act.put, List.setIfInBounds_toArray, List.set_cons_zero, List.set_cons_succ])
      ((refine wpAnyH_take (i := 1) (v := ?_) (by (simp only [List.getElem?_toArray, List.getElem?_cons_succ, List.getElem?_cons_zero]); rfl) (by kernel_rfl) (by kernel_rfl) (by kernel_rfl) (by exact fun _ _ _ h => h) (Or.inl ⟨by rfl, ?_⟩) (by assumption) ?_); rotate_left; focus (intro wS hSw; (try dsimp only at hSw); go_simp; first | done | with_reducible rfl); try simp only [Act.put, List.setIfInBounds_toArray, List.set_cons_zero, List.set_cons_succ])
      ((refine wpAnyH_take (i := 2) (v := ?_) (by (simp only [List.getElem?_toArray, List.getElem?_cons_succ, List.getElem?_cons_zero]); rfl) (by kernel_rfl) (by kernel_rfl) (by kernel_rfl) (by exact fun _ _ _ h => h) (Or.inl ⟨by rfl, ?_⟩) (by assumption) ?_); rotate_left; focus (intro wS hSw; (try dsimp only at hSw); go_simp; first | done | with_reducible rfl); try simp only [Act.put, List.setIfInBounds_toArray, List.set_cons_zero, List.set_cons_succ])
      ((refine wpAnyH_take (i := 3) (v := ?_) (by (simp only [List.getElem?_toArray, List.getElem?_cons_succ, List.getElem?_cons_zero]); rfl) (by kernel_rfl) (by kernel_rfl) (by kernel_rfl) (by exact fun _ _ _ h => h) (Or.inl ⟨by rfl, ?_⟩) (by assumption) ?_); rotate_left; focus (intro wS hSw; (try dsimp only at hSw); go_simp; first | done | with_reducible rfl); try simp only [Act.put, List.setIfInBounds_toArray, List.set_cons_zero, List.set_cons_succ])
      ((refine wpAnyH_take (i := 4) (v := ?_) (by (simp only [List.getElem?_toArray, List.getElem?_cons_succ, List.getElem?_cons_zero]); rfl) (by kernel_rfl) (by kernel_rfl) (by kernel_rfl) (by exact fun _ _ _ h => h) (Or.inl ⟨by rfl, ?_⟩) (by assumption) ?_); rotate_left; focus (intro wS hSw; (try dsimp only at hSw); go_simp; first | done | with_reducible rfl); try simp only [Act.put, List.setIfInBounds_toArray, List.set_cons_zero, List.set_cons_succ])
      refine wpAnyH_ready (rs := [5, 10]) (by kernel_rfl) (by simp) ?_
      refine AllReadyH.cons (by (simp only [List.getElem?_toArray, List.getElem?_cons_succ, List.getElem?_cons_zero]); rfl) (fun K hK => ?_) (AllReadyH.cons (by (simp only [List.getElem?_toArray, List.getElem?_cons_succ, List.getElem?_cons_zero]); rfl) (fun K hK => ?_) AllReadyH.nil)
      · skip
        go_simp
        go_fit (VP.out _ (HX6.out.fr.tags HI1.out) HBO6.out)
        rintro e W7 ⟨va, vc, rfl, hB7⟩
        have HX7 := Lib.hid (HX6.out.step hB7)
        have HB7 := Lib.hid (HB6.out.trans (hB7.mono HB6.out.size))
        go_wp2_with fail
        refine hK.out _ _ ⟨cell_at HX7.out.hF 0, cell_at HX7.out.hR 0, cell_at HX7.out.fr.blk 2, cell_at HX7.out.fr.blk 3⟩ (fun hHeld => ?_)
        clear hK K hB7
        try simp only [Act.put, List.setIfInBounds_toArray, List.set_cons_zero, List.set_cons_succ]
        ((refine wpAnyH_take (i := 6) (v := ?_) (by (simp only [List.getElem?_toArray, List.getElem?_cons_succ, List.getElem?_cons_zero]); rfl) (by kernel_rfl) (by kernel_rfl) (by kernel_rfl) (by exact fun _ _ _ h => h) (Or.inl ⟨by rfl, ?_⟩) (by assumption) ?_); rotate_left; focus (intro wS hSw; (try dsimp only at hSw); go_simp; first | done | with_reducible rfl); try simp only [Act.put, List.setIfInBounds_toArray, List.set_cons_zero, List.set_cons_succ])
        ((refine wpAnyH_take (i := 7) (v := ?_) (by (simp only [List.getElem?_toArray, List.getElem?_cons_succ, List.getElem?_cons_zero]); rfl) (by kernel_rfl) (by kernel_rfl) (by kernel_rfl) (by exact fun _ _ _ h => h) (Or.inl ⟨by rfl, ?_⟩) (by assumption) ?_); rotate_left; focus (intro wS hSw; (try dsimp only at hSw); go_simp; first | done | with_reducible rfl); try simp only [Act.put, List.setIfInBounds_toArray, List.set_cons_zero, List.set_cons_succ])
        ((refine wpAnyH_take (i := 8) (v := ?_) (by (simp only [List.getElem?_toArray, List.getElem?_cons_succ, List.getElem?_cons_zero]); rfl) (by kernel_rfl) (by kernel_rfl) (by kernel_rfl) (by exact fun _ _ _ h => h) (Or.inl ⟨by rfl, ?_⟩) (by assumption) ?_); rotate_left; focus (intro wS hSw; (try dsimp only at hSw); go_simp; first | done | with_reducible rfl); try simp only [Act.put, List.setIfInBounds_toArray, List.set_cons_zero, List.set_cons_succ])
        ((refine wpAnyH_take (i := 9) (v := ?_) (by (simp only [List.getElem?_toArray, List.getElem?_cons_succ, List.getElem?_cons_zero]); rfl) (by kernel_rfl) (by kernel_rfl) (by kernel_rfl) (by exact fun _ _ _ h => h) (Or.inl ⟨by rfl, ?_⟩) (by assumption) ?_); rotate_left; focus (intro wS hSw; (try dsimp only at hSw); go_simp; first | done | with_reducible rfl); try simp only [Act.put, List.setIfInBounds_toArray, List.set_cons_zero, List.set_cons_succ])
        refine wpAnyH_ready (rs := [10]) (by kernel_rfl) (by simp) ?_
        refine AllReadyH.cons (by (simp only [List.getElem?_toArray, List.getElem?_cons_succ, List.getElem?_cons_zero]); rfl) (fun K hK => ?_) AllReadyH.nil
        go_simp
        obtain ⟨NB, hNB⟩ : ∃ N, N = W7.heap.size := ⟨_, rfl⟩
        obtain ⟨W8, hW9⟩ : ∃ W, W = (W7.alloc (.cells #[.int .i64 0, .slice none 0 0] 39)) := ⟨_, rfl⟩
        have k9 : Blk W8 NB #[.int .i64 0, .slice none 0 0] 39 := by rw [hW9, hNB]; exact blk_new W7 _ _
        have hB9 : Below W7.heap.size W7 W8 := by rw [hW9]; exact alloc_b W7 _
        have HX8 := Lib.hid (HX7.out.step hB9)
        have HB8 := Lib.hid (HB7.out.trans (hB9.mono HB7.out.size))
        have HK8 := Lib.hid k9
        have HNB : Hid (W5.heap.size ≤ NB) := Lib.hid (by rw [hNB]; exact HB7.out.size)
        rw [← hNB, ← hW9]
        refine hK _ _ ⟨cell_at HX8.out.hF 0, cell_at HX8.out.hR 0, cell_at HX8.out.fr.blk 2, cell_at HX8.out.fr.blk 3⟩ (fun hHeld => ?_)
        clear hK K k9 hB9 hNB hW9
        try simp only [Act.put, List.setIfInBounds_toArray, List.set_cons_zero, List.set_cons_succ]
        refine wpAnyH_ready (rs := [11]) (by kernel_rfl) (by simp) ?_
        refine AllReadyH.cons (by (simp only [List.getElem?_toArray, List.getElem?_cons_succ, List.getElem?_cons_zero]); rfl) (fun K hK => ?_) AllReadyH.nil
        have k0 : W8.cell? ⟨NB, 0, none⟩ = some (.int .i64 0) := cell_at HK8.out 0
        have k1 : W8.cell? ⟨NB, 1, none⟩ = some (.slice none 0 0) := cell_at HK8.out 1
        have kz : ∀ j, W8.frozen? ⟨NB, j, none⟩ = false := fun j => free_at HK8.out j
        have kl : NB < W8.heap.size := HK8.out.lt
        generalize hW10' : (W8.setCell ⟨NB, 0, none⟩ (.int .i64 0)).setCell ⟨NB, 1, none⟩ (.slice va 0 vc) = W9
        have hW10 := hW10'.symm
        clear hW10'
        have hf10 : Fr [NB] W8 W9 := by rw [hW10]; exact ((Fr.refl _ _).setCell _ (.inl (by simp)) _).setCell _ (.inl (by simp)) _
        have HK9 := Lib.hid (show Blk W9 NB #[.int .i64 0, .slice va 0 vc] 39 by rw [hW10]; exact (HK8.out.set 0 _).set 1 _)
        have HX9 := Lib.hid (HX8.out.other hf10 HK8.out (by decide) (by decide) (by decide) (by decide) (by decide) (by decide) (by decide) (by decide))
        have HB9 := Lib.hid (HB8.out.trans (hf10.below HB8.out.size (by simp; exact HNB.out)))
        go_simp
        rw [← hW10]
        refine hK _ _ ⟨cell_at HX9.out.hF 0, cell_at HX9.out.hR 0, cell_at HX9.out.fr.blk 2, cell_at HX9.out.fr.blk 3⟩ (fun hHeld => ?_)
        clear hK K hW10 k0 k1 kz kl
        try simp only [Act.put, List.setIfInBounds_toArray, List.set_cons_zero, List.set_cons_succ]
        ((refine wpAnyH_take (i := 12) (v := ?_) (by (simp only [List.getElem?_toArray, List.getElem?_cons_succ, List.getElem?_cons_zero]); rfl) (by kernel_rfl) (by kernel_rfl) (by kernel_rfl) (by exact fun _ _ _ h => h) (Or.inl ⟨by rfl, ?_⟩) (by assumption) ?_); rotate_left; focus (intro wS hSw; (try dsimp only at hSw); go_simp; first | done | with_reducible rfl); try simp only [Act.put, List.setIfInBounds_toArray, List.set_cons_zero, List.set_cons_succ])
        ((refine wpAnyH_take (i := 13) (v := ?_) (by (simp only [List.getElem?_toArray, List.getElem?_cons_succ, List.getElem?_cons_zero]); rfl) (by kernel_rfl) (by kernel_rfl) (by kernel_rfl) (by exact fun _ _ _ h => h) (Or.inl ⟨by rfl, ?_⟩) (by assumption) ?_); rotate_left; focus (intro wS hSw; (try dsimp only at hSw); go_simp; first | done | with_reducible rfl); try simp only [Act.put, List.setIfInBounds_toArray, List.set_cons_zero, List.set_cons_succ])
        refine wpAnyH_done (by kernel_rfl) ?_ _
        try simp only [Act.put, List.setIfInBounds_toArray, List.set_cons_zero, List.set_cons_succ]
        go_wp2_with fail
        go_meet
        exact ⟨rfl, HB9.out⟩
      · skip
        go_simp
        obtain ⟨NB, hNB⟩ : ∃ N, N = W5.heap.size := ⟨_, rfl⟩
        obtain ⟨W7, hW9⟩ : ∃ W, W = (W5.alloc (.cells #[.int .i64 0, .slice none 0 0] 39)).drew := ⟨_, rfl⟩
        have k9 : Blk W7 NB #[.int .i64 0, .slice none 0 0] 39 := by rw [hW9, hNB]; exact blk_new W5 _ _
        have hB9 : Below W5.drew.heap.size W5.drew W7 := by rw [hW9]; exact alloc_b W5.drew _
        have HX7 := Lib.hid (HX6.out.step hB9)
        have HB7 := Lib.hid (HB6.out.trans (hB9.mono HB6.out.size))
        have HK7 := Lib.hid k9
        have HNB : Hid (W5.heap.size ≤ NB) := Lib.hid (by rw [hNB]; exact HB6.out.size)
        have HBO7 := Lib.hid (HBO6.out.below hB9)
        rw [← hNB, ← hW9]
        refine hK _ _ ⟨cell_at HX7.out.hF 0, cell_at HX7.out.hR 0, cell_at HX7.out.fr.blk 2, cell_at HX7.out.fr.blk 3⟩ (fun hHeld => ?_)
        clear hK K k9 hB9 hNB hW9
        try simp only [Act.put, List.setIfInBounds_toArray, List.set_cons_zero, List.set_cons_succ]
        refine wpAnyH_ready (rs := [5]) (by kernel_rfl) (by simp) ?_
        refine AllReadyH.cons (by (simp only [List.getElem?_toArray, List.getElem?_cons_succ, List.getElem?_cons_zero]); rfl) (fun K hK => ?_) AllReadyH.nil
        go_simp
        go_fit (VP.out _ (HX7.out.fr.tags HI1.out) HBO7.out)
        rintro e W8 ⟨va, vc, rfl, hB7⟩
        have HX8 := Lib.hid (HX7.out.step hB7)
        have HB8 := Lib.hid (HB7.out.trans (hB7.mono HB7.out.size))
        have HK8 := Lib.hid (HK7.out.step hB7)
        go_wp2_with fail
        refine hK.out _ _ ⟨cell_at HX8.out.hF 0, cell_at HX8.out.hR 0, cell_at HX8.out.fr.blk 2, cell_at HX8.out.fr.blk 3⟩ (fun hHeld => ?_)
        clear hK K hB7
        try simp only [Act.put, List.setIfInBounds_toArray, List.set_cons_zero, List.set_cons_succ]
        ((refine wpAnyH_take (i := 6) (v := ?_) (by (simp only [List.getElem?_toArray, List.getElem?_cons_succ, List.getElem?_cons_zero]); rfl) (by kernel_rfl) (by kernel_rfl) (by kernel_rfl) (by exact fun _ _ _ h => h) (Or.inl ⟨by rfl, ?_⟩) (by assumption) ?_); rotate_left; focus (intro wS hSw; (try dsimp only at hSw); go_simp; first | done | with_reducible rfl); try simp only [Act.put, List.setIfInBounds_toArray, List.set_cons_zero, List.set_cons_succ])
        ((refine wpAnyH_take (i := 7) (v := ?_) (by (simp only [List.getElem?_toArray, List.getElem?_cons_succ, List.getElem?_cons_zero]); rfl) (by kernel_rfl) (by kernel_rfl) (by kernel_rfl) (by exact fun _ _ _ h => h) (Or.inl ⟨by rfl, ?_⟩) (by assumption) ?_); rotate_left; focus (intro wS hSw; (try dsimp only at hSw); go_simp; first | done | with_reducible rfl); try simp only [Act.put, List.setIfInBounds_toArray, List.set_cons_zero, List.set_cons_succ])
        ((refine wpAnyH_take (i := 8) (v := ?_) (by (simp only [List.getElem?_toArray, List.getElem?_cons_succ, List.getElem?_cons_zero]); rfl) (by kernel_rfl) (by kernel_rfl) (by kernel_rfl) (by exact fun _ _ _ h => h) (Or.inl ⟨by rfl, ?_⟩) (by assumption) ?_); rotate_left; focus (intro wS hSw; (try dsimp only at hSw); go_simp; first | done | with_reducible rfl); try simp only [Act.put, List.setIfInBounds_toArray, List.set_cons_zero, List.set_cons_succ])
        ((refine wpAnyH_take (i := 9) (v := ?_) (by (simp only [List.getElem?_toArray, List.getElem?_cons_succ, List.getElem?_cons_zero]); rfl) (by kernel_rfl) (by kernel_rfl) (by kernel_rfl) (by exact fun _ _ _ h => h) (Or.inl ⟨by rfl, ?_⟩) (by assumption) ?_); rotate_left; focus (intro wS hSw; (try dsimp only at hSw); go_simp; first | done | with_reducible rfl); try simp only [Act.put, List.setIfInBounds_toArray, List.set_cons_zero, List.set_cons_succ])
        refine wpAnyH_ready (rs := [11]) (by kernel_rfl) (by simp) ?_
        refine AllReadyH.cons (by (simp only [List.getElem?_toArray, List.getElem?_cons_succ, List.getElem?_cons_zero]); rfl) (fun K hK => ?_) AllReadyH.nil
        have k0 : W8.cell? ⟨NB, 0, none⟩ = some (.int .i64 0) := cell_at HK8.out 0
        have k1 : W8.cell? ⟨NB, 1, none⟩ = some (.slice none 0 0) := cell_at HK8.out 1
        have kz : ∀ j, W8.frozen? ⟨NB, j, none⟩ = false := fun j => free_at HK8.out j
        have kl : NB < W8.heap.size := HK8.out.lt
        generalize hW10' : (W8.setCell ⟨NB, 0, none⟩ (.int .i64 0)).setCell ⟨NB, 1, none⟩ (.slice va 0 vc) = W9
        have hW10 := hW10'.symm
        clear hW10'
        have hf10 : Fr [NB] W8 W9 := by rw [hW10]; exact ((Fr.refl _ _).setCell _ (.inl (by simp)) _).setCell _ (.inl (by simp)) _
        have HK9 := Lib.hid (show Blk W9 NB #[.int .i64 0, .slice va 0 vc] 39 by rw [hW10]; exact (HK8.out.set 0 _).set 1 _)
        have HX9 := Lib.hid (HX8.out.other hf10 HK8.out (by decide) (by decide) (by decide) (by decide) (by decide) (by decide) (by decide) (by decide))
        have HB9 := Lib.hid (HB8.out.trans (hf10.below HB8.out.size (by simp; exact HNB.out)))
        go_simp
        rw [← hW10]
        refine hK _ _ ⟨cell_at HX9.out.hF 0, cell_at HX9.out.hR 0, cell_at HX9.out.fr.blk 2, cell_at HX9.out.fr.blk 3⟩ (fun hHeld => ?_)
        clear hK K hW10 k0 k1 kz kl
        try simp only [Act.put, List.setIfInBounds_toArray, List.set_cons_zero, List.set_cons_succ]
        ((refine wpAnyH_take (i := 12) (v := ?_) (by (simp only [List.getElem?_toArray, List.getElem?_cons_succ, List.getElem?_cons_zero]); rfl) (by kernel_rfl) (by kernel_rfl) (by kernel_rfl) (by exact fun _ _ _ h => h) (Or.inl ⟨by rfl, ?_⟩) (by assumption) ?_); rotate_left; focus (intro wS hSw; (try dsimp only at hSw); go_simp; first | done | with_reducible rfl); try simp only [Act.put, List.setIfInBounds_toArray, List.set_cons_zero, List.set_cons_succ])
        ((refine wpAnyH_take (i := 13) (v := ?_) (by (simp only [List.getElem?_toArray, List.getElem?_cons_succ, List.getElem?_cons_zero]); rfl) (by kernel_rfl) (by kernel_rfl) (by kernel_rfl) (by exact fun _ _ _ h => h) (Or.inl ⟨by rfl, ?_⟩) (by assumption) ?_); rotate_left; focus (intro wS hSw; (try dsimp only at hSw); go_simp; first | done | with_reducible rfl); try simp only [Act.put, List.setIfInBounds_toArray, List.set_cons_zero, List.set_cons_succ])
        refine wpAnyH_done (by kernel_rfl) ?_ _
        try simp only [Act.put, List.setIfInBounds_toArray, List.set_cons_zero, List.set_cons_succ]
        go_wp2_with fail
        go_meet
        exact ⟨rfl, HB9.out⟩
    case rest =>
      obtain ⟨rfl, hB6⟩ := hcut
      rename_i W6
      have HB6 := Lib.hid hB6
      clear hB6
      go_wp2_with fail
      have HF6 := Lib.hid (HF5.out.trans (Fr.of_below HB6.out) (by simp))
      have HX6 := Lib.hid (HX5.out.fr.step HB6.out)
      have HRES : Hid (kI (pkK n wt al (hsz E) s) = 0 ∧ (pkK n wt al (hsz E) s).isSome = false) := Lib.hid (by rw [HKN.out]; exact ⟨rfl, rfl⟩)
      exact bodyPost_ret (v := .tuple #[.int .i64 0, .bool false]) (by simp [results, Try.results11, go_sem]) rfl ⟨by rw [HRES.out.1, HRES.out.2], ⟨_, _, by rw [HSN.out]; exact HX6.out, HF6.out, HT5.out⟩⟩
  | some k0 =>
    obtain ⟨k, h2⟩ := second_some (V := s1.V) hp1
    have hk0 := (firstS_some hp1).1
    obtain ⟨hk, hkt⟩ := firstS_some h2
    obtain ⟨now, hnow⟩ : ∃ now, now = max s1.V (s1.T k0).s := ⟨_, rfl⟩
    have hnb := now_bd HI1.out hk0
    rw [← hnow] at hnb
    obtain ⟨Z, hZ⟩ : ∃ Z, Z = hsz E k := ⟨_, rfl⟩
    have hz2 : 1 ≤ Z ∧ Z ≤ 1500 := by
      have h3 := HM.out k hk
      unfold tkN rdy at hkt
      simp at hkt
      omega
    obtain ⟨hv1, hsv, hv2⟩ := mid_ok HI1.out hnb hz2
    have HKN : Hid (pkK n wt al (hsz E) s = some k) := Lib.hid (by rw [HK1.out]; unfold pickS; rw [hp1]; simp only; rw [h2]; rfl)
    have HSN : Hid (pkS n wt al (hsz E) s = takeS n k now Z s1) := Lib.hid (by rw [HS1.out]; unfold pickS; rw [hp1]; simp only; rw [h2, hZ, hnow])
    have VP := Lib.hid (fun W hx hy => vpick_ok s1.V ft5 n c5 s1.T ra rc (ob.getD 0) 0 (rdy (hsz E)) k0 k W hx HN8.out H0.out hy HI1.out.vok hp1 h2)
    rw [← hnow] at VP
    have HV1 := Lib.hid hv1
    have HSV := Lib.hid hsv
    have HV2 := Lib.hid hv2
    have HKL := Lib.hid hk
    have HZZ : Hid (s1.z k = Z) := Lib.hid (by rw [HZ1.out k hk, hZ])
    have HZ2 := Lib.hid hz2
    clear hp1 h2 hk0 hkt hnow hnb hZ hz2 hv1 hsv hv2 hk
    go_upto_region 5 with fail
    go_cut [7, 8, 9] (fun v7 v8 v9 W => ∃ (W' : World) (NB ft' c' : Nat), W' = W ∧ v7 = .pointer (some ⟨NB, 0, none⟩) ∧ v8 = .int .i64 k ∧ v9 = .bool true ∧ Pk5 W5 W' NB ft' n c' now s1.T)
    case first =>
      refine wp_region_held_drew (S := fun X => X.cell? ⟨N, 0, none⟩ = some (.pointer (some ⟨g, 0, none⟩)) ∧ X.cell? ⟨R, 0, none⟩ = some (.slice ra n rc) ∧ X.cell? ⟨g, 2, none⟩ = some (.int .i64 s1.V) ∧ X.cell? ⟨g, 3, none⟩ = some (.slice (some ⟨ft5, 0, none⟩) n c5)) (by kernel_rfl) ⟨cell_at HX5.out.hF 0, cell_at HX5.out.hR 0, cell_at HX5.out.fr.blk 2, cell_at HX5.out.fr.blk 3⟩ (fun hHeld => ?_)
      try simp only [Act.put, List.setIfInBounds_toArray, List.set_cons_zero, List.set_cons_succ]
      have Bz := belowN (Below.refl W5.heap.size W5) 1
      have HX6 := Lib.hid (show EaAt W5.drew M g fo ft5 n c1 c5 wt al s1 N (N + 1) R a cap (.slice ra n rc) ob (rdy (hsz E)) n from HX5.out.step Bz)
      have HBO6 := Lib.hid (show BoolsIn W5.drew ra n rc (ob.getD 0) 0 (rdy (hsz E)) from HBO.out.below Bz)
      have HB6 : Hid (Below W5.heap.size W5 W5.drew) := Lib.hid Bz
      clear Bz
      ((refine wpAnyH_take (i := 0) (v := ?_) (by (simp only [List.getElem?_toArray, List.getElem?_cons_succ, List.getElem?_cons_zero]); rfl) (by kernel_rfl) (by kernel_rfl) (by kernel_rfl) (by exact fun _ _ _ h => h) (Or.inl ⟨by rfl, ?_⟩) (by assumption) ?_); rotate_left; focus (intro wS hSw; (try dsimp only at hSw); go_simp; first | done | with_reducible rfl); try simp only [Act.put, List.setIfInBounds_toArray, List.set_cons_zero, List.set_cons_succ])
      ((refine wpAnyH_take (i := 1) (v := ?_) (by (simp only [List.getElem?_toArray, List.getElem?_cons_succ, List.getElem?_cons_zero]); rfl) (by kernel_rfl) (by kernel_rfl) (by kernel_rfl) (by exact fun _ _ _ h => h) (Or.inl ⟨by rfl, ?_⟩) (by assumption) ?_); rotate_left; focus (intro wS hSw; (try dsimp only at hSw); go_simp; first | done | with_reducible rfl); try simp only [Act.put, List.setIfInBounds_toArray, List.set_cons_zero, List.set_cons_succ])
      ((refine wpAnyH_take (i := 2) (v := ?_) (by (simp only [List.getElem?_toArray, List.getElem?_cons_succ, List.getElem?_cons_zero]); rfl) (by kernel_rfl) (by kernel_rfl) (by kernel_rfl) (by exact fun _ _ _ h => h) (Or.inl ⟨by rfl, ?_⟩) (by assumption) ?_); rotate_left; focus (intro wS hSw; (try dsimp only at hSw); go_simp; first | done | with_reducible rfl); try simp only [Act.put, List.setIfInBounds_toArray, List.set_cons_zero, List.set_cons_succ])
      ((refine wpAnyH_take (i := 3) (v := ?_) (by (simp only [List.getElem?_toArray, List.getElem?_cons_succ, List.getElem?_cons_zero]); rfl) (by kernel_rfl) (by kernel_rfl) (by kernel_rfl) (by exact fun _ _ _ h => h) (Or.inl ⟨by rfl, ?_⟩) (by assumption) ?_); rotate_left; focus (intro wS hSw; (try dsimp only at hSw); go_simp; first | done | with_reducible rfl); try simp only [Act.put, List.setIfInBounds_toArray, List.set_cons_zero, List.set_cons_succ])
      ((refine wpAnyH_take (i := 4) (v := ?_) (by (simp only [List.getElem?_toArray, List.getElem?_cons_succ, List.getElem?_cons_zero]); rfl) (by kernel_rfl) (by kernel_rfl) (by kernel_rfl) (by exact fun _ _ _ h => h) (Or.inl ⟨by rfl, ?_⟩) (by assumption) ?_); rotate_left; focus (intro wS hSw; (try dsimp only at hSw); go_simp; first | done | with_reducible rfl); try simp only [Act.put, List.setIfInBounds_toArray, List.set_cons_zero, List.set_cons_succ])
      refine wpAnyH_ready (rs := [5, 10]) (by kernel_rfl) (by simp) ?_
      refine AllReadyH.cons (by (simp only [List.getElem?_toArray, List.getElem?_cons_succ, List.getElem?_cons_zero]); rfl) (fun K hK => ?_) (AllReadyH.cons (by (simp only [List.getElem?_toArray, List.getElem?_cons_succ, List.getElem?_cons_zero]); rfl) (fun K hK => ?_) AllReadyH.nil)
      · skip
        go_simp
        go_fit (VP.out _ (HX6.out.fr.tags HI1.out) HBO6.out)
        rintro e W7 ⟨ft', c', rfl, hr7, hg7, hB7⟩
        have HX7 := Lib.hid (HX6.out.step hB7)
        have HB7 := Lib.hid (HB6.out.trans (hB7.mono HB6.out.size))
        have HR7 := Lib.hid hr7
        have HG7 : Hid (W5.heap.size ≤ ft') := Lib.hid (Nat.le_trans HB6.out.size hg7)
        clear hr7 hg7
        go_wp2_with fail
        refine hK.out _ _ ⟨cell_at HX7.out.hF 0, cell_at HX7.out.hR 0, cell_at HX7.out.fr.blk 2, cell_at HX7.out.fr.blk 3⟩ (fun hHeld => ?_)
        clear hK K hB7
        try simp only [Act.put, List.setIfInBounds_toArray, List.set_cons_zero, List.set_cons_succ]
        ((refine wpAnyH_take (i := 6) (v := ?_) (by (simp only [List.getElem?_toArray, List.getElem?_cons_succ, List.getElem?_cons_zero]); rfl) (by kernel_rfl) (by kernel_rfl) (by kernel_rfl) (by exact fun _ _ _ h => h) (Or.inl ⟨by rfl, ?_⟩) (by assumption) ?_); rotate_left; focus (intro wS hSw; (try dsimp only at hSw); go_simp; first | done | with_reducible rfl); try simp only [Act.put, List.setIfInBounds_toArray, List.set_cons_zero, List.set_cons_succ])
        ((refine wpAnyH_take (i := 7) (v := ?_) (by (simp only [List.getElem?_toArray, List.getElem?_cons_succ, List.getElem?_cons_zero]); rfl) (by kernel_rfl) (by kernel_rfl) (by kernel_rfl) (by exact fun _ _ _ h => h) (Or.inl ⟨by rfl, ?_⟩) (by assumption) ?_); rotate_left; focus (intro wS hSw; (try dsimp only at hSw); go_simp; first | done | with_reducible rfl); try simp only [Act.put, List.setIfInBounds_toArray, List.set_cons_zero, List.set_cons_succ])
        ((refine wpAnyH_take (i := 8) (v := ?_) (by (simp only [List.getElem?_toArray, List.getElem?_cons_succ, List.getElem?_cons_zero]); rfl) (by kernel_rfl) (by kernel_rfl) (by kernel_rfl) (by exact fun _ _ _ h => h) (Or.inl ⟨by rfl, ?_⟩) (by assumption) ?_); rotate_left; focus (intro wS hSw; (try dsimp only at hSw); go_simp; first | done | with_reducible rfl); try simp only [Act.put, List.setIfInBounds_toArray, List.set_cons_zero, List.set_cons_succ])
        ((refine wpAnyH_take (i := 9) (v := ?_) (by (simp only [List.getElem?_toArray, List.getElem?_cons_succ, List.getElem?_cons_zero]); rfl) (by kernel_rfl) (by kernel_rfl) (by kernel_rfl) (by exact fun _ _ _ h => h) (Or.inl ⟨by rfl, ?_⟩) (by assumption) ?_); rotate_left; focus (intro wS hSw; (try dsimp only at hSw); go_simp; first | done | with_reducible rfl); try simp only [Act.put, List.setIfInBounds_toArray, List.set_cons_zero, List.set_cons_succ])
        refine wpAnyH_ready (rs := [10]) (by kernel_rfl) (by simp) ?_
        refine AllReadyH.cons (by (simp only [List.getElem?_toArray, List.getElem?_cons_succ, List.getElem?_cons_zero]); rfl) (fun K hK => ?_) AllReadyH.nil
        go_simp
        obtain ⟨NB, hNB⟩ : ∃ N, N = W7.heap.size := ⟨_, rfl⟩
        obtain ⟨W8, hW9⟩ : ∃ W, W = (W7.alloc (.cells #[.int .i64 0, .slice none 0 0] 39)) := ⟨_, rfl⟩
        have k9 : Blk W8 NB #[.int .i64 0, .slice none 0 0] 39 := by rw [hW9, hNB]; exact blk_new W7 _ _
        have hB9 : Below W7.heap.size W7 W8 := by rw [hW9]; exact alloc_b W7 _
        have HX8 := Lib.hid (HX7.out.step hB9)
        have HB8 := Lib.hid (HB7.out.trans (hB9.mono HB7.out.size))
        have HK8 := Lib.hid k9
        have HNB : Hid (W5.heap.size ≤ NB) := Lib.hid (by rw [hNB]; exact HB7.out.size)
        have HR8 := Lib.hid (show Row W8 (.slice (some ⟨ft', 0, none⟩) n c') (some ft') 80 2 n (tagsL s1.T n) from HR7.out.congr fun q e => by obtain rfl := Option.some.inj e; exact hB9.block _ HR7.out.lt)
        rw [← hNB, ← hW9]
        refine hK _ _ ⟨cell_at HX8.out.hF 0, cell_at HX8.out.hR 0, cell_at HX8.out.fr.blk 2, cell_at HX8.out.fr.blk 3⟩ (fun hHeld => ?_)
        clear hK K k9 hB9 hNB hW9
        try simp only [Act.put, List.setIfInBounds_toArray, List.set_cons_zero, List.set_cons_succ]
        refine wpAnyH_ready (rs := [11]) (by kernel_rfl) (by simp) ?_
        refine AllReadyH.cons (by (simp only [List.getElem?_toArray, List.getElem?_cons_succ, List.getElem?_cons_zero]); rfl) (fun K hK => ?_) AllReadyH.nil
        have k0 : W8.cell? ⟨NB, 0, none⟩ = some (.int .i64 0) := cell_at HK8.out 0
        have k1 : W8.cell? ⟨NB, 1, none⟩ = some (.slice none 0 0) := cell_at HK8.out 1
        have kz : ∀ j, W8.frozen? ⟨NB, j, none⟩ = false := fun j => free_at HK8.out j
        have kl : NB < W8.heap.size := HK8.out.lt
        generalize hW10' : (W8.setCell ⟨NB, 0, none⟩ (.int .i64 now)).setCell ⟨NB, 1, none⟩ (.slice (some ⟨ft', 0, none⟩) n c') = W9
        have hW10 := hW10'.symm
        clear hW10'
        have hf10 : Fr [NB] W8 W9 := by rw [hW10]; exact ((Fr.refl _ _).setCell _ (.inl (by simp)) _).setCell _ (.inl (by simp)) _
        have HK9 := Lib.hid (show Blk W9 NB #[.int .i64 now, .slice (some ⟨ft', 0, none⟩) n c'] 39 by rw [hW10]; exact (HK8.out.set 0 _).set 1 _)
        have HX9 := Lib.hid (HX8.out.other hf10 HK8.out (by decide) (by decide) (by decide) (by decide) (by decide) (by decide) (by decide) (by decide))
        have HB9 := Lib.hid (HB8.out.trans (hf10.below HB8.out.size (by simp; exact HNB.out)))
        have HR9 := Lib.hid (show Row W9 (.slice (some ⟨ft', 0, none⟩) n c') (some ft') 80 2 n (tagsL s1.T n) from HR8.out.congr fun q e => by obtain rfl := Option.some.inj e; exact hf10.block _ HR8.out.lt (by simpa using fun e => row_blk_ne HR8.out HK8.out (by decide) e.symm))
        go_simp
        rw [← hW10]
        refine hK _ _ ⟨cell_at HX9.out.hF 0, cell_at HX9.out.hR 0, cell_at HX9.out.fr.blk 2, cell_at HX9.out.fr.blk 3⟩ (fun hHeld => ?_)
        clear hK K hW10 k0 k1 kz kl
        try simp only [Act.put, List.setIfInBounds_toArray, List.set_cons_zero, List.set_cons_succ]
        ((refine wpAnyH_take (i := 12) (v := ?_) (by (simp only [List.getElem?_toArray, List.getElem?_cons_succ, List.getElem?_cons_zero]); rfl) (by kernel_rfl) (by kernel_rfl) (by kernel_rfl) (by exact fun _ _ _ h => h) (Or.inl ⟨by rfl, ?_⟩) (by assumption) ?_); rotate_left; focus (intro wS hSw; (try dsimp only at hSw); go_simp; first | done | with_reducible rfl); try simp only [Act.put, List.setIfInBounds_toArray, List.set_cons_zero, List.set_cons_succ])
        ((refine wpAnyH_take (i := 13) (v := ?_) (by (simp only [List.getElem?_toArray, List.getElem?_cons_succ, List.getElem?_cons_zero]); rfl) (by kernel_rfl) (by kernel_rfl) (by kernel_rfl) (by exact fun _ _ _ h => h) (Or.inl ⟨by rfl, ?_⟩) (by assumption) ?_); rotate_left; focus (intro wS hSw; (try dsimp only at hSw); go_simp; first | done | with_reducible rfl); try simp only [Act.put, List.setIfInBounds_toArray, List.set_cons_zero, List.set_cons_succ])
        refine wpAnyH_done (by kernel_rfl) ?_ _
        try simp only [Act.put, List.setIfInBounds_toArray, List.set_cons_zero, List.set_cons_succ]
        go_wp2_with fail
        go_meet
        exact ⟨_, NB, ft', c', rfl, rfl, rfl, rfl, ⟨HK9.out, HR9.out, HB9.out, HG7.out⟩⟩
      · skip
        go_simp
        obtain ⟨NB, hNB⟩ : ∃ N, N = W5.heap.size := ⟨_, rfl⟩
        obtain ⟨W7, hW9⟩ : ∃ W, W = (W5.alloc (.cells #[.int .i64 0, .slice none 0 0] 39)).drew := ⟨_, rfl⟩
        have k9 : Blk W7 NB #[.int .i64 0, .slice none 0 0] 39 := by rw [hW9, hNB]; exact blk_new W5 _ _
        have hB9 : Below W5.drew.heap.size W5.drew W7 := by rw [hW9]; exact alloc_b W5.drew _
        have HX7 := Lib.hid (HX6.out.step hB9)
        have HB7 := Lib.hid (HB6.out.trans (hB9.mono HB6.out.size))
        have HK7 := Lib.hid k9
        have HNB : Hid (W5.heap.size ≤ NB) := Lib.hid (by rw [hNB]; exact HB6.out.size)
        have HBO7 := Lib.hid (HBO6.out.below hB9)
        rw [← hNB, ← hW9]
        refine hK _ _ ⟨cell_at HX7.out.hF 0, cell_at HX7.out.hR 0, cell_at HX7.out.fr.blk 2, cell_at HX7.out.fr.blk 3⟩ (fun hHeld => ?_)
        clear hK K k9 hB9 hNB hW9
        try simp only [Act.put, List.setIfInBounds_toArray, List.set_cons_zero, List.set_cons_succ]
        refine wpAnyH_ready (rs := [5]) (by kernel_rfl) (by simp) ?_
        refine AllReadyH.cons (by (simp only [List.getElem?_toArray, List.getElem?_cons_succ, List.getElem?_cons_zero]); rfl) (fun K hK => ?_) AllReadyH.nil
        go_simp
        go_fit (VP.out _ (HX7.out.fr.tags HI1.out) HBO7.out)
        rintro e W8 ⟨ft', c', rfl, hr7, hg7, hB7⟩
        have HX8 := Lib.hid (HX7.out.step hB7)
        have HB8 := Lib.hid (HB7.out.trans (hB7.mono HB7.out.size))
        have HR8 := Lib.hid hr7
        have HG7 : Hid (W5.heap.size ≤ ft') := Lib.hid (Nat.le_trans HB7.out.size hg7)
        clear hr7 hg7
        have HK8 := Lib.hid (HK7.out.step hB7)
        go_wp2_with fail
        refine hK.out _ _ ⟨cell_at HX8.out.hF 0, cell_at HX8.out.hR 0, cell_at HX8.out.fr.blk 2, cell_at HX8.out.fr.blk 3⟩ (fun hHeld => ?_)
        clear hK K hB7
        try simp only [Act.put, List.setIfInBounds_toArray, List.set_cons_zero, List.set_cons_succ]
        ((refine wpAnyH_take (i := 6) (v := ?_) (by (simp only [List.getElem?_toArray, List.getElem?_cons_succ, List.getElem?_cons_zero]); rfl) (by kernel_rfl) (by kernel_rfl) (by kernel_rfl) (by exact fun _ _ _ h => h) (Or.inl ⟨by rfl, ?_⟩) (by assumption) ?_); rotate_left; focus (intro wS hSw; (try dsimp only at hSw); go_simp; first | done | with_reducible rfl); try simp only [Act.put, List.setIfInBounds_toArray, List.set_cons_zero, List.set_cons_succ])
        ((refine wpAnyH_take (i := 7) (v := ?_) (by (simp only [List.getElem?_toArray, List.getElem?_cons_succ, List.getElem?_cons_zero]); rfl) (by kernel_rfl) (by kernel_rfl) (by kernel_rfl) (by exact fun _ _ _ h => h) (Or.inl ⟨by rfl, ?_⟩) (by assumption) ?_); rotate_left; focus (intro wS hSw; (try dsimp only at hSw); go_simp; first | done | with_reducible rfl); try simp only [Act.put, List.setIfInBounds_toArray, List.set_cons_zero, List.set_cons_succ])
        ((refine wpAnyH_take (i := 8) (v := ?_) (by (simp only [List.getElem?_toArray, List.getElem?_cons_succ, List.getElem?_cons_zero]); rfl) (by kernel_rfl) (by kernel_rfl) (by kernel_rfl) (by exact fun _ _ _ h => h) (Or.inl ⟨by rfl, ?_⟩) (by assumption) ?_); rotate_left; focus (intro wS hSw; (try dsimp only at hSw); go_simp; first | done | with_reducible rfl); try simp only [Act.put, List.setIfInBounds_toArray, List.set_cons_zero, List.set_cons_succ])
        ((refine wpAnyH_take (i := 9) (v := ?_) (by (simp only [List.getElem?_toArray, List.getElem?_cons_succ, List.getElem?_cons_zero]); rfl) (by kernel_rfl) (by kernel_rfl) (by kernel_rfl) (by exact fun _ _ _ h => h) (Or.inl ⟨by rfl, ?_⟩) (by assumption) ?_); rotate_left; focus (intro wS hSw; (try dsimp only at hSw); go_simp; first | done | with_reducible rfl); try simp only [Act.put, List.setIfInBounds_toArray, List.set_cons_zero, List.set_cons_succ])
        refine wpAnyH_ready (rs := [11]) (by kernel_rfl) (by simp) ?_
        refine AllReadyH.cons (by (simp only [List.getElem?_toArray, List.getElem?_cons_succ, List.getElem?_cons_zero]); rfl) (fun K hK => ?_) AllReadyH.nil
        have k0 : W8.cell? ⟨NB, 0, none⟩ = some (.int .i64 0) := cell_at HK8.out 0
        have k1 : W8.cell? ⟨NB, 1, none⟩ = some (.slice none 0 0) := cell_at HK8.out 1
        have kz : ∀ j, W8.frozen? ⟨NB, j, none⟩ = false := fun j => free_at HK8.out j
        have kl : NB < W8.heap.size := HK8.out.lt
        generalize hW10' : (W8.setCell ⟨NB, 0, none⟩ (.int .i64 now)).setCell ⟨NB, 1, none⟩ (.slice (some ⟨ft', 0, none⟩) n c') = W9
        have hW10 := hW10'.symm
        clear hW10'
        have hf10 : Fr [NB] W8 W9 := by rw [hW10]; exact ((Fr.refl _ _).setCell _ (.inl (by simp)) _).setCell _ (.inl (by simp)) _
        have HK9 := Lib.hid (show Blk W9 NB #[.int .i64 now, .slice (some ⟨ft', 0, none⟩) n c'] 39 by rw [hW10]; exact (HK8.out.set 0 _).set 1 _)
        have HX9 := Lib.hid (HX8.out.other hf10 HK8.out (by decide) (by decide) (by decide) (by decide) (by decide) (by decide) (by decide) (by decide))
        have HB9 := Lib.hid (HB8.out.trans (hf10.below HB8.out.size (by simp; exact HNB.out)))
        have HR9 := Lib.hid (show Row W9 (.slice (some ⟨ft', 0, none⟩) n c') (some ft') 80 2 n (tagsL s1.T n) from HR8.out.congr fun q e => by obtain rfl := Option.some.inj e; exact hf10.block _ HR8.out.lt (by simpa using fun e => row_blk_ne HR8.out HK8.out (by decide) e.symm))
        go_simp
        rw [← hW10]
        refine hK _ _ ⟨cell_at HX9.out.hF 0, cell_at HX9.out.hR 0, cell_at HX9.out.fr.blk 2, cell_at HX9.out.fr.blk 3⟩ (fun hHeld => ?_)
        clear hK K hW10 k0 k1 kz kl
        try simp only [Act.put, List.setIfInBounds_toArray, List.set_cons_zero, List.set_cons_succ]
        ((refine wpAnyH_take (i := 12) (v := ?_) (by (simp only [List.getElem?_toArray, List.getElem?_cons_succ, List.getElem?_cons_zero]); rfl) (by kernel_rfl) (by kernel_rfl) (by kernel_rfl) (by exact fun _ _ _ h => h) (Or.inl ⟨by rfl, ?_⟩) (by assumption) ?_); rotate_left; focus (intro wS hSw; (try dsimp only at hSw); go_simp; first | done | with_reducible rfl); try simp only [Act.put, List.setIfInBounds_toArray, List.set_cons_zero, List.set_cons_succ])
        ((refine wpAnyH_take (i := 13) (v := ?_) (by (simp only [List.getElem?_toArray, List.getElem?_cons_succ, List.getElem?_cons_zero]); rfl) (by kernel_rfl) (by kernel_rfl) (by kernel_rfl) (by exact fun _ _ _ h => h) (Or.inl ⟨by rfl, ?_⟩) (by assumption) ?_); rotate_left; focus (intro wS hSw; (try dsimp only at hSw); go_simp; first | done | with_reducible rfl); try simp only [Act.put, List.setIfInBounds_toArray, List.set_cons_zero, List.set_cons_succ])
        refine wpAnyH_done (by kernel_rfl) ?_ _
        try simp only [Act.put, List.setIfInBounds_toArray, List.set_cons_zero, List.set_cons_succ]
        go_wp2_with fail
        go_meet
        exact ⟨_, NB, ft', c', rfl, rfl, rfl, rfl, ⟨HK9.out, HR9.out, HB9.out, HG7.out⟩⟩
    case rest =>
      obtain ⟨W6, NB, ft6, c6, rfl, rfl, rfl, rfl, h6⟩ := hcut
      have HP6 := Lib.hid (HX5.out.step h6.b)
      have HF6 := Lib.hid (HF5.out.trans (Fr.of_below h6.b) (by simp))
      have HT6 : Hid (M ≤ ft6 ∧ w.heap.size ≤ ft6) := Lib.hid ⟨Nat.le_trans HX5.out.fr.size h6.ge, Nat.le_trans HF5.out.size h6.ge⟩
      have HNG := Lib.hid (HX5.out.fr.ty HX5.out.hF (by decide))
      have f0 : W6.cell? ⟨N, 0, none⟩ = some (.pointer (some ⟨g, 0, none⟩)) := cell_at HP6.out.hF 0
      have f1 : W6.cell? ⟨NB, 0, none⟩ = some (.int .i64 now) := cell_at h6.tb 0
      have f2 : W6.cell? ⟨NB, 1, none⟩ = some (.slice (some ⟨ft6, 0, none⟩) n c6) := cell_at h6.tb 1
      have g2 : W6.cell? ⟨g, 2, none⟩ = some (.int .i64 s1.V) := cell_at HP6.out.fr.blk 2
      have g3 : W6.cell? ⟨g, 3, none⟩ = some (.slice (some ⟨ft5, 0, none⟩) n c5) := cell_at HP6.out.fr.blk 3
      have gz : ∀ j, W6.frozen? ⟨g, j, none⟩ = false := fun j => free_at HP6.out.fr.blk j
      have gl : g < W6.heap.size := HP6.out.fr.blk.lt
      obtain ⟨W7, hW7⟩ : ∃ W, W = (W6.setCell ⟨g, 2, none⟩ (.int .i64 now)).setCell ⟨g, 3, none⟩ (.slice (some ⟨ft6, 0, none⟩) n c6) := ⟨_, rfl⟩
      obtain ⟨hx7, hf7⟩ := HP6.out.fr.vt h6.row HT6.out.1 hW7
      have HX7 := Lib.hid hx7
      have HF7 := Lib.hid (HF6.out.trans hf7 (by simp))
      have HP7 := Lib.hid (show Blk W7 N #[.pointer (some ⟨g, 0, none⟩)] 25 from (hf7.block N HP6.out.hF.lt (by simpa using HNG.out.1)).trans HP6.out.hF)
      clear h6 hx7 hf7 VP
      go_upto_region 9 with fail
      rw [← hW7]
      clear hW7 f0 f1 f2 g2 g3 gz gl HP6 HF6 HX5
      have w2 : IntKind.i64.wrap Z = Z := IntWalk.i64_in _ (by have := HZ2.out; omega)
      have bk1 : (k < n) = True := eq_true HKL.out
      have bk2 : ((k : Int) < (n : Int)) = True := eq_true (by have := HKL.out; omega)
      have bk0 : ((0 : Int) ≤ (k : Int)) = True := eq_true (by omega)
      refine wp_region_held_drew (S := fun X => X.cell? ⟨N, 0, none⟩ = some (.pointer (some ⟨g, 0, none⟩)) ∧ X.cell? ⟨g, 0, none⟩ = some (.slice (some ⟨fo, 0, none⟩) n c1) ∧ X.cell? ⟨fo, k * 3 + 1, none⟩ = some (.int .u16 Z)) (by kernel_rfl) ⟨cell_at HP7.out 0, cell_at HX7.out.blk 0, by rw [← HZZ.out]; exact (HX7.out.fl.cell HKL.out).2.1⟩ (fun hHeld => ?_)
      try simp only [Act.put, List.setIfInBounds_toArray, List.set_cons_zero, List.set_cons_succ]
      have Bz := belowN (Below.refl W7.heap.size W7) 1
      have HX8 := Lib.hid (show FrAt W7.drew M g fo ft6 n c1 c6 wt al ⟨now, s1.T, s1.z, s1.sv⟩ from HX7.out.step Bz)
      have HP8 := Lib.hid (show Blk W7.drew N #[.pointer (some ⟨g, 0, none⟩)] 25 from HP7.out.step Bz)
      have HF8 : Hid (Fr [g, fo, ft] w W7.drew) := Lib.hid (HF7.out.trans (Fr.of_below Bz) (by simp))
      clear Bz HX7 HP7 HF7
      ((refine wpAnyH_take (i := 0) (v := ?_) (by (simp only [List.getElem?_toArray, List.getElem?_cons_succ, List.getElem?_cons_zero]); rfl) (by kernel_rfl) (by kernel_rfl) (by kernel_rfl) (by exact fun _ _ _ h => h) (Or.inl ⟨by rfl, ?_⟩) (by assumption) ?_); rotate_left; focus (intro wS hSw; (try dsimp only at hSw); go_simp; first | done | with_reducible rfl); try simp only [Act.put, List.setIfInBounds_toArray, List.set_cons_zero, List.set_cons_succ])
      ((refine wpAnyH_take (i := 1) (v := ?_) (by (simp only [List.getElem?_toArray, List.getElem?_cons_succ, List.getElem?_cons_zero]); rfl) (by kernel_rfl) (by kernel_rfl) (by kernel_rfl) (by exact fun _ _ _ h => h) (Or.inl ⟨by rfl, ?_⟩) (by assumption) ?_); rotate_left; focus (intro wS hSw; (try dsimp only at hSw); go_simp; first | done | with_reducible rfl); try simp only [Act.put, List.setIfInBounds_toArray, List.set_cons_zero, List.set_cons_succ])
      ((refine wpAnyH_take (i := 2) (v := ?_) (by (simp only [List.getElem?_toArray, List.getElem?_cons_succ, List.getElem?_cons_zero]); rfl) (by kernel_rfl) (by kernel_rfl) (by kernel_rfl) (by exact fun _ _ _ h => h) (Or.inl ⟨by rfl, ?_⟩) (by assumption) ?_); rotate_left; focus (intro wS hSw; (try dsimp only at hSw); go_simp; first | done | with_reducible rfl); try simp only [Act.put, List.setIfInBounds_toArray, List.set_cons_zero, List.set_cons_succ])
      ((refine wpAnyH_take (i := 3) (v := ?_) (by (simp only [List.getElem?_toArray, List.getElem?_cons_succ, List.getElem?_cons_zero]); rfl) (by kernel_rfl) (by kernel_rfl) (by kernel_rfl) (by exact fun _ _ _ h => h) (Or.inl ⟨by rfl, ?_⟩) (by assumption) ?_); rotate_left; focus (intro wS hSw; (try dsimp only at hSw); go_simp; first | done | with_reducible rfl); try simp only [Act.put, List.setIfInBounds_toArray, List.set_cons_zero, List.set_cons_succ])
      ((refine wpAnyH_take (i := 5) (v := ?_) (by (simp only [List.getElem?_toArray, List.getElem?_cons_succ, List.getElem?_cons_zero]); rfl) (by kernel_rfl) (by kernel_rfl) (by kernel_rfl) (by exact fun _ _ _ h => h) (Or.inl ⟨by rfl, ?_⟩) (by assumption) ?_); rotate_left; focus (intro wS hSw; (try dsimp only at hSw); go_simp; first | done | with_reducible rfl); try simp only [Act.put, List.setIfInBounds_toArray, List.set_cons_zero, List.set_cons_succ])
      ((refine wpAnyH_take (i := 6) (v := ?_) (by (simp only [List.getElem?_toArray, List.getElem?_cons_succ, List.getElem?_cons_zero]); rfl) (by kernel_rfl) (by kernel_rfl) (by kernel_rfl) (by exact fun _ _ _ h => h) (Or.inl ⟨by rfl, ?_⟩) (by assumption) ?_); rotate_left; focus (intro wS hSw; (try dsimp only at hSw); go_simp; first | done | with_reducible rfl); try simp only [Act.put, List.setIfInBounds_toArray, List.set_cons_zero, List.set_cons_succ])
      ((refine wpAnyH_take (i := 7) (v := ?_) (by (simp only [List.getElem?_toArray, List.getElem?_cons_succ, List.getElem?_cons_zero]); rfl) (by kernel_rfl) (by kernel_rfl) (by kernel_rfl) (by exact fun _ _ _ h => h) (Or.inl ⟨by rfl, ?_⟩) (by assumption) ?_); rotate_left; focus (intro wS hSw; (try dsimp only at hSw); go_simp; first | done | with_reducible rfl); try simp only [Act.put, List.setIfInBounds_toArray, List.set_cons_zero, List.set_cons_succ])
      ((refine wpAnyH_take (i := 8) (v := ?_) (by (simp only [List.getElem?_toArray, List.getElem?_cons_succ, List.getElem?_cons_zero]); rfl) (by kernel_rfl) (by kernel_rfl) (by kernel_rfl) (by exact fun _ _ _ h => h) (Or.inl ⟨by rfl, ?_⟩) (by assumption) ?_); rotate_left; focus (intro wS hSw; (try dsimp only at hSw); go_simp; first | done | with_reducible rfl); try simp only [Act.put, List.setIfInBounds_toArray, List.set_cons_zero, List.set_cons_succ])
      ((refine wpAnyH_take (i := 9) (v := ?_) (by (simp only [List.getElem?_toArray, List.getElem?_cons_succ, List.getElem?_cons_zero]); rfl) (by kernel_rfl) (by kernel_rfl) (by kernel_rfl) (by exact fun _ _ _ h => h) (Or.inl ⟨by rfl, ?_⟩) (by assumption) ?_); rotate_left; focus (intro wS hSw; (try dsimp only at hSw); go_simp; first | done | with_reducible rfl); try simp only [Act.put, List.setIfInBounds_toArray, List.set_cons_zero, List.set_cons_succ])
      ((refine wpAnyH_take (i := 10) (v := ?_) (by (simp only [List.getElem?_toArray, List.getElem?_cons_succ, List.getElem?_cons_zero]); rfl) (by kernel_rfl) (by kernel_rfl) (by kernel_rfl) (by exact fun _ _ _ h => h) (Or.inl ⟨by rfl, ?_⟩) (by assumption) ?_); rotate_left; focus (intro wS hSw; (try dsimp only at hSw); go_simp; first | done | with_reducible rfl); try simp only [Act.put, List.setIfInBounds_toArray, List.set_cons_zero, List.set_cons_succ])
      ((refine wpAnyH_take (i := 11) (v := ?_) (by (simp only [List.getElem?_toArray, List.getElem?_cons_succ, List.getElem?_cons_zero]); rfl) (by kernel_rfl) (by kernel_rfl) (by kernel_rfl) (by exact fun _ _ _ h => h) (Or.inl ⟨by rfl, ?_⟩) (by assumption) ?_); rotate_left; focus (intro wS hSw; (try dsimp only at hSw); go_simp; first | done | with_reducible rfl); try simp only [Act.put, List.setIfInBounds_toArray, List.set_cons_zero, List.set_cons_succ])
      ((refine wpAnyH_take (i := 12) (v := ?_) (by (simp only [List.getElem?_toArray, List.getElem?_cons_succ, List.getElem?_cons_zero]); rfl) (by kernel_rfl) (by kernel_rfl) (by kernel_rfl) (by exact fun _ _ _ h => h) (Or.inl ⟨by rfl, ?_⟩) (by assumption) ?_); rotate_left; focus (intro wS hSw; (try dsimp only at hSw); go_simp; first | done | with_reducible rfl); try simp only [Act.put, List.setIfInBounds_toArray, List.set_cons_zero, List.set_cons_succ])
      ((refine wpAnyH_take (i := 13) (v := ?_) (by (simp only [List.getElem?_toArray, List.getElem?_cons_succ, List.getElem?_cons_zero]); rfl) (by kernel_rfl) (by kernel_rfl) (by kernel_rfl) (by exact fun _ _ _ h => h) (Or.inl ⟨by rfl, ?_⟩) (by assumption) ?_); rotate_left; focus (intro wS hSw; (try dsimp only at hSw); go_simp; first | done | with_reducible rfl); try simp only [Act.put, List.setIfInBounds_toArray, List.set_cons_zero, List.set_cons_succ])
      refine wpAnyH_ready (rs := [4]) (by kernel_rfl) (by simp) ?_
      refine AllReadyH.cons (by (simp only [List.getElem?_toArray, List.getElem?_cons_succ, List.getElem?_cons_zero]); rfl) (fun K hK => ?_) AllReadyH.nil
      have e2 : W7.drew.cell? ⟨g, 2, none⟩ = some (.int .i64 now) := cell_at HX8.out.blk 2
      have e3 : W7.drew.cell? ⟨g, 3, none⟩ = some (.slice (some ⟨ft6, 0, none⟩) n c6) := cell_at HX8.out.blk 3
      go_simp
      refine hK _ _ ⟨cell_at HP8.out 0, cell_at HX8.out.blk 0, by rw [← HZZ.out]; exact (HX8.out.fl.cell HKL.out).2.1⟩ (fun hHeld => ?_)
      clear hK K e2 e3
      try simp only [Act.put, List.setIfInBounds_toArray, List.set_cons_zero, List.set_cons_succ]
      refine wpAnyH_ready (rs := [14]) (by kernel_rfl) (by simp) ?_
      refine AllReadyH.cons (by (simp only [List.getElem?_toArray, List.getElem?_cons_succ, List.getElem?_cons_zero]); rfl) (fun K hK => ?_) AllReadyH.nil
      go_simp
      have HTG : Hid (TagsIn W7.drew (some ⟨ft6, 0, none⟩) n c6 ft6 0 s1.T) := Lib.hid (by
        obtain ⟨a', c', he, ht⟩ := tags_row HX8.out.tg (fun j hj => HI1.out.tok j hj)
        injection he with e1 e2 e3
        subst e1 e3
        exact ht)
      go_fit (vserve_ok now ft6 n c6 s1.T Z _ HTG.out HN8.out H0.out HSV.out)
      rintro e W9 ⟨ft9, c9, rfl, hr9, hg9, hB9⟩
      have HX9 := Lib.hid (HX8.out.step hB9)
      have HP9 := Lib.hid (HP8.out.step hB9)
      have HF9 := Lib.hid (HF8.out.trans (Fr.of_below hB9) (by simp))
      have HR9 := Lib.hid hr9
      have HT9 : Hid (M ≤ ft9) := Lib.hid (Nat.le_trans HX8.out.size hg9)
      clear hr9 hg9 hB9 HTG
      go_wp2_with fail
      refine hK.out _ _ ⟨cell_at HP9.out 0, cell_at HX9.out.blk 0, by rw [← HZZ.out]; exact (HX9.out.fl.cell HKL.out).2.1⟩ (fun hHeld => ?_)
      clear hK K
      try simp only [Act.put, List.setIfInBounds_toArray, List.set_cons_zero, List.set_cons_succ]
      ((refine wpAnyH_take (i := 15) (v := ?_) (by (simp only [List.getElem?_toArray, List.getElem?_cons_succ, List.getElem?_cons_zero]); rfl) (by kernel_rfl) (by kernel_rfl) (by kernel_rfl) (by exact fun _ _ _ h => h) (Or.inl ⟨by rfl, ?_⟩) (by assumption) ?_); rotate_left; focus (intro wS hSw; (try dsimp only at hSw); go_simp; first | done | with_reducible rfl); try simp only [Act.put, List.setIfInBounds_toArray, List.set_cons_zero, List.set_cons_succ])
      ((refine wpAnyH_take (i := 16) (v := ?_) (by (simp only [List.getElem?_toArray, List.getElem?_cons_succ, List.getElem?_cons_zero]); rfl) (by kernel_rfl) (by kernel_rfl) (by kernel_rfl) (by exact fun _ _ _ h => h) (Or.inl ⟨by rfl, ?_⟩) (by assumption) ?_); rotate_left; focus (intro wS hSw; (try dsimp only at hSw); go_simp; first | done | with_reducible rfl); try simp only [Act.put, List.setIfInBounds_toArray, List.set_cons_zero, List.set_cons_succ])
      ((refine wpAnyH_ready (rs := [17]) (by kernel_rfl) (by simp) ?_); (refine AllReadyH.cons (by (simp only [List.getElem?_toArray, List.getElem?_cons_succ, List.getElem?_cons_zero]); rfl) (fun K hK => ?_) AllReadyH.nil); go_simp; go_fit (set_ok _ _ _ _ M g fo ft6 n c1 c6 wt al _ _ HX9.out HR9.out HT9.out))
      rintro e W10 ⟨rfl, hx10, _, hf10⟩
      have HX10 := Lib.hid hx10
      have HP10 := Lib.hid (show Blk W10 N #[.pointer (some ⟨g, 0, none⟩)] 25 from (hf10.block N HP9.out.lt (by simpa using HNG.out.1)).trans HP9.out)
      have HF10 := Lib.hid (HF9.out.trans hf10 (by simp))
      clear hx10 hf10
      go_wp2_with fail
      refine hK.out _ _ ⟨cell_at HP10.out 0, cell_at HX10.out.blk 0, by rw [← HZZ.out]; exact (HX10.out.fl.cell HKL.out).2.1⟩ (fun hHeld => ?_)
      clear hK K
      try simp only [Act.put, List.setIfInBounds_toArray, List.set_cons_zero, List.set_cons_succ]
      refine wpAnyH_done (by kernel_rfl) ?_ _
      try simp only [Act.put, List.setIfInBounds_toArray, List.set_cons_zero, List.set_cons_succ]
      obtain ⟨V2, hV2⟩ : ∃ V2, V2 = now + Z * 720720 := ⟨_, rfl⟩
      rw [← hV2] at HX10 HV2
      have HVV := Lib.hid hV2
      clear hV2 HX9 HP9 HF9 HR9 HT9 HX8 HP8 HF8 w2
      go_upto_region 10 with fail
      refine wp_region_held_drew (S := fun X => X.cell? ⟨N, 0, none⟩ = some (.pointer (some ⟨g, 0, none⟩))) (by kernel_rfl) (cell_at HP10.out 0) (fun hHeld => ?_)
      try simp only [Act.put, List.setIfInBounds_toArray, List.set_cons_zero, List.set_cons_succ]
      have Bz := belowN (Below.refl W10.heap.size W10) 1
      have HX11 := Lib.hid (show FrAt W10.drew M g fo ft9 n c1 c9 wt al ⟨V2, s1.T, s1.z, s1.sv⟩ from HX10.out.step Bz)
      have HP11 := Lib.hid (show Blk W10.drew N #[.pointer (some ⟨g, 0, none⟩)] 25 from HP10.out.step Bz)
      have HF11 : Hid (Fr [g, fo, ft] w W10.drew) := Lib.hid (HF10.out.trans (Fr.of_below Bz) (by simp))
      clear Bz HX10 HP10 HF10
      ((refine wpAnyH_take (i := 0) (v := ?_) (by (simp only [List.getElem?_toArray, List.getElem?_cons_succ, List.getElem?_cons_zero]); rfl) (by kernel_rfl) (by kernel_rfl) (by kernel_rfl) (by exact fun _ _ _ h => h) (Or.inl ⟨by rfl, ?_⟩) (by assumption) ?_); rotate_left; focus (intro wS hSw; (try dsimp only at hSw); go_simp; first | done | with_reducible rfl); try simp only [Act.put, List.setIfInBounds_toArray, List.set_cons_zero, List.set_cons_succ])
      ((refine wpAnyH_take (i := 1) (v := ?_) (by (simp only [List.getElem?_toArray, List.getElem?_cons_succ, List.getElem?_cons_zero]); rfl) (by kernel_rfl) (by kernel_rfl) (by kernel_rfl) (by exact fun _ _ _ h => h) (Or.inl ⟨by rfl, ?_⟩) (by assumption) ?_); rotate_left; focus (intro wS hSw; (try dsimp only at hSw); go_simp; first | done | with_reducible rfl); try simp only [Act.put, List.setIfInBounds_toArray, List.set_cons_zero, List.set_cons_succ])
      ((refine wpAnyH_take (i := 2) (v := ?_) (by (simp only [List.getElem?_toArray, List.getElem?_cons_succ, List.getElem?_cons_zero]); rfl) (by kernel_rfl) (by kernel_rfl) (by kernel_rfl) (by exact fun _ _ _ h => h) (Or.inl ⟨by rfl, ?_⟩) (by assumption) ?_); rotate_left; focus (intro wS hSw; (try dsimp only at hSw); go_simp; first | done | with_reducible rfl); try simp only [Act.put, List.setIfInBounds_toArray, List.set_cons_zero, List.set_cons_succ])
      ((refine wpAnyH_take (i := 3) (v := ?_) (by (simp only [List.getElem?_toArray, List.getElem?_cons_succ, List.getElem?_cons_zero]); rfl) (by kernel_rfl) (by kernel_rfl) (by kernel_rfl) (by exact fun _ _ _ h => h) (Or.inl ⟨by rfl, ?_⟩) (by assumption) ?_); rotate_left; focus (intro wS hSw; (try dsimp only at hSw); go_simp; first | done | with_reducible rfl); try simp only [Act.put, List.setIfInBounds_toArray, List.set_cons_zero, List.set_cons_succ])
      refine wpAnyH_ready (rs := [4]) (by kernel_rfl) (by simp) ?_
      refine AllReadyH.cons (by (simp only [List.getElem?_toArray, List.getElem?_cons_succ, List.getElem?_cons_zero]); rfl) (fun K hK => ?_) AllReadyH.nil
      have e2 : W10.drew.cell? ⟨g, 2, none⟩ = some (.int .i64 V2) := cell_at HX11.out.blk 2
      have e3 : W10.drew.cell? ⟨g, 3, none⟩ = some (.slice (some ⟨ft9, 0, none⟩) n c9) := cell_at HX11.out.blk 3
      go_simp
      refine hK _ _ (cell_at HP11.out 0) (fun hHeld => ?_)
      clear hK K e2 e3
      try simp only [Act.put, List.setIfInBounds_toArray, List.set_cons_zero, List.set_cons_succ]
      refine wpAnyH_ready (rs := [5]) (by kernel_rfl) (by simp) ?_
      refine AllReadyH.cons (by (simp only [List.getElem?_toArray, List.getElem?_cons_succ, List.getElem?_cons_zero]); rfl) (fun K hK => ?_) AllReadyH.nil
      go_simp
      have HTG : Hid (TagsIn W10.drew (some ⟨ft9, 0, none⟩) n c9 ft9 0 s1.T) := Lib.hid (by
        obtain ⟨a', c', he, ht⟩ := tags_row HX11.out.tg (fun j hj => HI1.out.tok j hj)
        injection he with e1 e2 e3
        subst e1 e3
        exact ht)
      go_fit (vreb_ok V2 ft9 n c9 s1.T _ HTG.out HN8.out H0.out HV2.out)
      rintro e W12 ⟨ft12, c12, rfl, hr12, hg12, hB12⟩
      have HX12 := Lib.hid (HX11.out.step hB12)
      have HP12 := Lib.hid (HP11.out.step hB12)
      have HF12 := Lib.hid (HF11.out.trans (Fr.of_below hB12) (by simp))
      have HR12 := Lib.hid hr12
      have HT12 : Hid (M ≤ ft12 ∧ w.heap.size ≤ ft12) := Lib.hid ⟨Nat.le_trans HX11.out.size hg12, Nat.le_trans HF11.out.size hg12⟩
      clear hr12 hg12 hB12 HTG
      go_wp2_with fail
      refine hK.out _ _ (cell_at HP12.out 0) (fun hHeld => ?_)
      clear hK K
      try simp only [Act.put, List.setIfInBounds_toArray, List.set_cons_zero, List.set_cons_succ]
      ((refine wpAnyH_take (i := 6) (v := ?_) (by (simp only [List.getElem?_toArray, List.getElem?_cons_succ, List.getElem?_cons_zero]); rfl) (by kernel_rfl) (by kernel_rfl) (by kernel_rfl) (by exact fun _ _ _ h => h) (Or.inl ⟨by rfl, ?_⟩) (by assumption) ?_); rotate_left; focus (intro wS hSw; (try dsimp only at hSw); go_simp; first | done | with_reducible rfl); try simp only [Act.put, List.setIfInBounds_toArray, List.set_cons_zero, List.set_cons_succ])
      ((refine wpAnyH_take (i := 7) (v := ?_) (by (simp only [List.getElem?_toArray, List.getElem?_cons_succ, List.getElem?_cons_zero]); rfl) (by kernel_rfl) (by kernel_rfl) (by kernel_rfl) (by exact fun _ _ _ h => h) (Or.inl ⟨by rfl, ?_⟩) (by assumption) ?_); rotate_left; focus (intro wS hSw; (try dsimp only at hSw); go_simp; first | done | with_reducible rfl); try simp only [Act.put, List.setIfInBounds_toArray, List.set_cons_zero, List.set_cons_succ])
      refine wpAnyH_ready (rs := [8]) (by kernel_rfl) (by simp) ?_
      refine AllReadyH.cons (by (simp only [List.getElem?_toArray, List.getElem?_cons_succ, List.getElem?_cons_zero]); rfl) (fun K hK => ?_) AllReadyH.nil
      obtain ⟨V3, hV3⟩ : ∃ V3, V3 = reV V2 := ⟨_, rfl⟩
      rw [← hV3]
      have g2 : W12.cell? ⟨g, 2, none⟩ = some (.int .i64 V2) := cell_at HX12.out.blk 2
      have g3 : W12.cell? ⟨g, 3, none⟩ = some (.slice (some ⟨ft9, 0, none⟩) n c9) := cell_at HX12.out.blk 3
      have gz : ∀ j, W12.frozen? ⟨g, j, none⟩ = false := fun j => free_at HX12.out.blk j
      have gl : g < W12.heap.size := HX12.out.blk.lt
      generalize hW13' : (W12.setCell ⟨g, 2, none⟩ (.int .i64 V3)).setCell ⟨g, 3, none⟩ (.slice (some ⟨ft12, 0, none⟩) n c12) = W13
      have hW13 := hW13'.symm
      clear hW13'
      obtain ⟨hx13, hf13⟩ := HX12.out.vt HR12.out HT12.out.1 hW13
      have HX13 := Lib.hid hx13
      have HF13 := Lib.hid (HF12.out.trans hf13 (by simp))
      have HP13 := Lib.hid (show Blk W13 N #[.pointer (some ⟨g, 0, none⟩)] 25 from (hf13.block N HP12.out.lt (by simpa using HNG.out.1)).trans HP12.out)
      have HV3 := Lib.hid hV3
      clear hx13 hf13 hV3
      go_simp
      rw [← hW13]
      refine hK _ _ (cell_at HP13.out 0) (fun hHeld => ?_)
      clear hK K hW13 g2 g3 gz gl
      try simp only [Act.put, List.setIfInBounds_toArray, List.set_cons_zero, List.set_cons_succ]
      refine wpAnyH_done (by kernel_rfl) ?_ _
      try simp only [Act.put, List.setIfInBounds_toArray, List.set_cons_zero, List.set_cons_succ]
      clear HX12 HP12 HF12 HR12 HX11 HP11 HF11
      have f0 : W13.cell? ⟨N, 0, none⟩ = some (.pointer (some ⟨g, 0, none⟩)) := cell_at HP13.out 0
      have g0 : W13.cell? ⟨g, 0, none⟩ = some (.slice (some ⟨fo, 0, none⟩) n c1) := cell_at HX13.out.blk 0
      obtain ⟨_, _, z2, zz⟩ := HX13.out.fl.cell HKL.out
      have zl := HX13.out.fl.lt
      obtain ⟨W14, hW14⟩ : ∃ W, W = W13.setCell ⟨fo, k * 3 + 2, none⟩ (.bool true) := ⟨_, rfl⟩
      obtain ⟨hx14, hf14⟩ := HX13.out.sv1 HKL.out hW14
      have HX14 : Hid (FrAt W14 M g fo ft12 n c1 c12 wt al (pkS n wt al (hsz E) s)) := Lib.hid (by
        rw [HSN.out, takeS_re, ← HVV.out, ← HV3.out]
        exact hx14)
      have HF14 := Lib.hid (HF13.out.trans hf14 (by simp))
      have HRES : Hid (kI (pkK n wt al (hsz E) s) = (k : Int) ∧ (pkK n wt al (hsz E) s).isSome = true) := Lib.hid (by rw [HKN.out]; exact ⟨rfl, rfl⟩)
      clear hx14 hf14
      go_upto_region 12 with fail
      rw [← hW14]
      clear hW14 f0 g0 z2 zz zl
      go_wp2_with fail
      exact bodyPost_ret (v := .tuple #[.int .i64 k, .bool true]) (by simp [results, Try.results11, go_sem]) rfl ⟨by rw [HRES.out.1, HRES.out.2], ⟨_, _, HX14.out, HF14.out, .inr HT12.out.2⟩⟩
end Go.Proofs.Ytnainlemnkfpkaa
