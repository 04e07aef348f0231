/-
  A scheduler's flows gone over, each told of its head: the program.
-/
import Derived.Test.YtnainlemnkfpkaaFa4
namespace Go.Proofs.Ytnainlemnkfpkaa
open Go.RowKit
set_option linter.unusedSimpArgs false
set_option linter.unusedVariables false

def gTy : List TypeId := [60, 63, 80, 41, 4]
structure BG (M : Nat) (W W' : World) : Prop where
  b : Below M W W'
  t : TyL gTy W W'
theorem BG.refl (M : Nat) (W : World) : BG M W W := ⟨Below.refl _ _, TyL.refl _ _⟩
theorem BG.trans {M : Nat} {a b c : World} (h : BG M a b) (k : BG M b c) : BG M a c := ⟨h.b.trans k.b, h.t.trans k.t⟩
theorem BG.size {M : Nat} {a b : World} (h : BG M a b) : a.heap.size ≤ b.heap.size := h.b.size
theorem BG.new {M : Nat} {W W' : World} (h : Below W.heap.size W W') (hM : M ≤ W.heap.size) : BG M W W' := ⟨h.mono hM, TyL.of_below h⟩
theorem BF.g {M : Nat} {W W' : World} (h : BF M W W') : BG M W W' := ⟨h.b, fun q cs ty hb hn => h.t q cs ty hb (fun hm => hn (by simp only [fTy, List.mem_cons, List.not_mem_nil, or_false] at hm; rcases hm with h | h | h <;> simp [gTy, h]))⟩
theorem BG.fr {M : Nat} {W W' : World} {l : List Nat} (h : Fr l W W') (hM : M ≤ W.heap.size) (hl : ∀ q ∈ l, M ≤ q ∧ ∃ cs ty, Blk W q cs ty ∧ ty ∈ gTy) : BG M W W' := ⟨h.below hM (fun q hq => (hl q hq).1), TyL.of_fr h fun q hq => (hl q hq).2⟩
theorem FrAt.ty {W : World} {M g fo ft n c1 c2 : Nat} {wt : Nat → Int} {al : Int} {s : FS} (h : FrAt W M g fo ft n c1 c2 wt al s) {q : Nat} {cs : Array Value} {ty : TypeId} (hb : Blk W q cs ty) (hn : ty ∉ fTy) : q ≠ g ∧ q ≠ fo ∧ q ≠ ft := by
  have dis : ∀ {x : Nat} {a b : Array Value} {t u : TypeId}, Blk W x a t → Blk W x b u → t = u := fun h1 h2 => by
    have := h1.symm.trans h2
    injection this with e'
    injection e' with e1 e2
  refine ⟨?_, ?_, ?_⟩
  · rintro rfl; exact hn (by rw [dis hb h.blk]; simp [fTy])
  · rintro rfl; obtain ⟨cf, hf, _⟩ := h.fl; exact hn (by rw [dis hb hf]; simp [fTy])
  · rintro rfl; obtain ⟨cf, hf⟩ := blk_row h.tg; exact hn (by rw [dis hb hf]; simp [fTy])
theorem alloc_b (w : World) (o : Obj) : Below w.heap.size w (w.alloc o) := (Below.refl _ _).alloc (Nat.le_refl _) _
/-- flows, heads, what is ready: memory while flows are gone over -/
structure EaAt (W : World) (M g fo ft n c1 c2 : Nat) (wt : Nat → Int) (al : Int) (s : FS) (bF bH bR : Nat) (a : Option Addr) (cap : Nat) (vr : Value) (ob : Option Nat) (R : Nat → Bool) (k : Nat) : Prop where
  fr : FrAt W M g fo ft n c1 c2 wt al s
  hF : Blk W bF #[.pointer (some ⟨g, 0, none⟩)] 25
  hH : Blk W bH #[.slice a n cap] 32
  hR : Blk W bR #[vr] 41
  row : Row W vr ob 4 1 k (boL R k)
  hO : ∀ q, ob = some q → M ≤ q
  ge : M ≤ bR
theorem EaAt.bg {W W' : World} {M g fo ft n c1 c2 : Nat} {wt : Nat → Int} {al : Int} {s s' : FS} {bF bH bR ft' c' : Nat} {a : Option Addr} {cap : Nat} {vr : Value} {ob : Option Nat} {R : Nat → Bool} {k : Nat} (h : EaAt W M g fo ft n c1 c2 wt al s bF bH bR a cap vr ob R k) (hB : BF M W W') (hf : FrAt W' M g fo ft' n c1 c' wt al s') : EaAt W' M g fo ft' n c1 c' wt al s' bF bH bR a cap vr ob R k := by
  refine ⟨hf, hB.t _ _ _ h.hF (by decide), hB.t _ _ _ h.hH (by decide), hB.t _ _ _ h.hR (by decide), h.row.congr fun q e => ?_, h.hO, h.ge⟩
  subst e
  obtain ⟨cs, hb⟩ := blk_row h.row
  have h2 := hB.t _ _ _ hb (by decide)
  exact h2.trans hb.symm
theorem EaAt.step {W W' : World} {M g fo ft n c1 c2 : Nat} {wt : Nat → Int} {al : Int} {s : FS} {bF bH bR : Nat} {a : Option Addr} {cap : Nat} {vr : Value} {ob : Option Nat} {R : Nat → Bool} {k : Nat} (h : EaAt W M g fo ft n c1 c2 wt al s bF bH bR a cap vr ob R k) (hB : Below W.heap.size W W') : EaAt W' M g fo ft n c1 c2 wt al s bF bH bR a cap vr ob R k :=
  h.bg (BF.new hB h.fr.size) (h.fr.step hB)
/-- one more is told ready or not -/
theorem EaAt.put {W W1 W3 W4 : World} {M g fo ft n c1 c2 : Nat} {wt : Nat → Int} {al : Int} {s : FS} {bF bH bR : Nat} {a : Option Addr} {cap : Nat} {vr v' : Value} {ob : Option Nat} {ob' : Nat} {R : Nat → Bool} {k : Nat} (h : EaAt W M g fo ft n c1 c2 wt al s bF bH bR a cap vr ob R k)
    (hB1 : Below W.heap.size W W1) (hr : Row W3 v' (some ob') 4 1 (k + 1) (boL R (k + 1))) (hg : W1.grownBy W3 ob) (hn : ob = some ob' ∨ ob' = W1.heap.size) (hM : M ≤ ob') (hW : W4 = W3.setCell ⟨bR, 0, none⟩ v') :
    EaAt W4 M g fo ft n c1 c2 wt al s bF bH bR a cap v' (some ob') R (k + 1) ∧ BG M W W4 ∧ Fr (bR :: ob.toList) W W4 ∧ W3.cell? ⟨bR, 0, none⟩ = some vr ∧ (∀ j, W3.frozen? ⟨bR, j, none⟩ = false) ∧ bR < W3.heap.size := by
  have h1 := h.step hB1
  have hsz := h1.fr.size
  have nb : ∀ {q : Nat} {cs : Array Value} {ty : TypeId}, Blk W1 q cs ty → ty ≠ 4 → ob ≠ some q := fun {q cs ty} hb ht e => by
    subst e
    exact row_blk_ne h1.row hb ht rfl
  have hf3 : Fr ob.toList W1 W3 := ⟨hg.os, hg.tape, hg.output, hg.size, fun i hi hq => hg.block i hi (fun e => hq (by rw [← e]; simp))⟩
  have hR3 : Blk W3 bR #[vr] 41 := (hg.block bR h1.hR.lt (fun e => nb h1.hR (by decide) e.symm)).trans h1.hR
  have hne : bR ≠ ob' := fun e => by
    subst e
    exact row_blk_ne hr hR3 (by decide) rfl
  have hf4 : Fr [bR] W3 W4 := by rw [hW]; exact (Fr.refl _ _).setCell _ (.inl (by simp)) _
  have hft : Fr (bR :: ob.toList) W1 W4 := (hf3.mono (fun x hx => .inl (List.mem_cons_of_mem _ hx))).trans hf4 (fun x hx => .inl (by simp at hx; subst hx; simp))
  have hno : ∀ {q : Nat} {cs : Array Value} {ty : TypeId}, Blk W1 q cs ty → ty ≠ 4 → ty ≠ 41 → q ∉ bR :: ob.toList := fun {q cs ty} hb h1' h2' => by
    simp only [List.mem_cons, not_or]
    refine ⟨?_, fun hm => nb hb h1' (by simpa using hm)⟩
    rintro rfl
    have := hb.symm.trans h1.hR
    injection this with e'
    injection e' with _ e2
    exact h2' e2
  obtain ⟨cf, hcf, _⟩ := h1.fr.fl
  obtain ⟨ct, hct⟩ := blk_row h1.fr.tg
  refine ⟨⟨h1.fr.fr hft (hno h1.fr.blk (by decide) (by decide)) (hno hcf (by decide) (by decide)) (hno hct (by decide) (by decide)), (hft.block bF h1.hF.lt (hno h1.hF (by decide) (by decide))).trans h1.hF, (hft.block bH h1.hH.lt (hno h1.hH (by decide) (by decide))).trans h1.hH, by rw [hW]; exact hR3.set 0 _, hr.congr fun q e => ?_, fun q e => ?_, h.ge⟩, (BG.new hB1 h.fr.size).trans (BG.fr hft hsz fun q hq => ?_), ((Fr.of_below hB1).mono (by simp)).trans hft (fun x hx => .inl hx), cell_at hR3 0, fun j => free_at hR3 j, hR3.lt⟩
  · obtain rfl := Option.some.inj e
    exact hf4.block _ hr.lt (by simpa using fun e => hne e.symm)
  · obtain rfl := Option.some.inj e
    exact hM
  · rcases List.mem_cons.1 hq with rfl | hq
    · exact ⟨h.ge, _, _, h1.hR, by simp [gTy]⟩
    · have e : ob = some q := by simpa using hq
      subst e
      obtain ⟨cs, hb⟩ := blk_row h1.row
      exact ⟨h.hO q rfl, _, _, hb, by simp [gTy]⟩
structure P1P (M g fo ft n c1 : Nat) (wt : Nat → Int) (al : Int) (s' : FS) (bF bH bR : Nat) (a : Option Addr) (cap : Nat) (ob : Option Nat) (R : Nat → Bool) (k : Nat) (w w' : World) : Prop where
  ex : ∃ ft' c' vr' ob', EaAt w' M g fo ft' n c1 c' wt al s' bF bH bR a cap vr' (some ob') R k ∧ Fr (g :: fo :: ft :: bR :: ob.toList) w w' ∧ (ft' = ft ∨ w.heap.size ≤ ft') ∧ (ob = some ob' ∨ w.heap.size ≤ ob')
  b : BG M w w'
set_option maxRecDepth 100000 in
set_option maxHeartbeats 8000000 in
theorem pick1_ok (k : Nat) (M g fo ft n c1 c2 : Nat) (wt : Nat → Int) (al : Int) (s : FS) (bF bH bR : Nat) (a : Option Addr) (cap hb ho : Nat) (E : Nat → HdE) (vr : Value) (ob : Option Nat) (w : World) (h : EaAt w M g fo ft n c1 c2 wt al s bF bH bR a cap vr ob (rdy (hsz E)) k) (hE : ∀ W', BG M w W' → HdIn W' a n cap hb ho E) (hm : okHd (hsz E) n) (hi : Inv n s) (hw : WtOk n wt al) (hk : k < n) :
    Calls Try.prog 26 #[.int .i64 k, .pointer (some ⟨fo, k * 3, none⟩), .pointer (some ⟨bF, 0, none⟩), .pointer (some ⟨bH, 0, none⟩), .pointer (some ⟨bR, 0, none⟩)] w fun e w' => e = .returned (.tuple #[]) ∧ P1P M g fo ft n c1 wt al (hearS (wt k) al k (hsz E k) s) bF bH bR a cap ob (rdy (hsz E)) (k + 1) w w' := by
  obtain ⟨ea, hbl⟩ := (hE w (BG.refl _ _)).at_ (by omega)
  subst ea
  have HH := Lib.hid h
  have HE := Lib.hid hE
  obtain ⟨Z, hZ⟩ : ∃ z, z = hsz E k := ⟨_, rfl⟩
  have HC : Hid (∀ W', BG M w W' → W'.cell? ⟨hb, ho + k * 2, none⟩ = some (.int .i64 Z)) := Lib.hid (fun W' hB => by rw [hZ]; exact ((hE W' hB).cell k hk).1)
  have hz2 : 0 ≤ Z ∧ Z ≤ 1500 := by rw [hZ]; exact hm k hk
  have HZ2 := Lib.hid hz2
  have HR := Lib.hid (fun W hf => hear_ok k Z M g fo ft n c1 c2 wt al s W hf hi hw hk hz2)
  have hn8 := hi.n8
  have bk1 : (k < n) = True := eq_true hk
  have bk2 : ((k : Int) < (n : Int)) = True := eq_true (by omega)
  have bk0 : ((0 : Int) ≤ (k : Int)) = True := eq_true (by omega)
  have HRD : Hid (rdy (hsz E) k = decide (0 < Z)) := Lib.hid (by unfold rdy; rw [hZ])
  have HZ := Lib.hid hZ
  have HN8 := Lib.hid hn8
  have HK := Lib.hid hk
  clear h hE hm hi hw hz2 hZ hn8 hbl hk
  go_enter Try.func26, Try.ntmps26
  go_upto_region 0 with fail
  refine wp_region_held_drew (S := fun X => X.cell? ⟨bF, 0, none⟩ = some (.pointer (some ⟨g, 0, none⟩)) ∧ X.cell? ⟨bH, 0, none⟩ = some (.slice (some ⟨hb, ho, none⟩) n cap) ∧ X.cell? ⟨hb, ho + k * 2, none⟩ = some (.int .i64 Z)) (by kernel_rfl) ⟨cell_at HH.out.hF 0, cell_at HH.out.hH 0, HC.out w.drew (BG.new (belowN (Below.refl w.heap.size w) 1) HH.out.fr.size)⟩ (fun hHeld => ?_)
  try simp only [Act.put, List.setIfInBounds_toArray, List.set_cons_zero, List.set_cons_succ]
  have Bz := belowN (Below.refl w.heap.size w) 1
  have HH1 : Hid (EaAt w.drew M g fo ft n c1 c2 wt al s bF bH bR (some ⟨hb, ho, none⟩) cap vr ob (rdy (hsz E)) k) := Lib.hid (HH.out.step Bz)
  have HB1 : Hid (BG M w w.drew) := Lib.hid (BG.new Bz HH.out.fr.size)
  clear Bz HH
  ((refine wpAnyH_take (i := 0) (v := ?_) (by (simp only [List.getElem?_toArray, List.getElem?_cons_succ, List.getElem?_cons_zero]); rfl) (by kernel_rfl) (by kernel_rfl) (by kernel_rfl) (by exact fun _ _ _ h => h) (Or.inl ⟨by rfl, ?_⟩) (by assumption) ?_); rotate_left; focus (intro wS hSw; (try dsimp only at hSw); go_simp; first | done | with_reducible rfl); try simp only [Act.put, List.setIfInBounds_toArray, List.set_cons_zero, List.set_cons_succ])
  ((refine wpAnyH_take (i := 1) (v := ?_) (by (simp only [List.getElem?_toArray, List.getElem?_cons_succ, List.getElem?_cons_zero]); rfl) (by kernel_rfl) (by kernel_rfl) (by kernel_rfl) (by exact fun _ _ _ h => h) (Or.inl ⟨by rfl, ?_⟩) (by assumption) ?_); rotate_left; focus (intro wS hSw; (try dsimp only at hSw); go_simp; first | done | with_reducible rfl); try simp only [Act.put, List.setIfInBounds_toArray, List.set_cons_zero, List.set_cons_succ])
  ((refine wpAnyH_take (i := 2) (v := ?_) (by (simp only [List.getElem?_toArray, List.getElem?_cons_succ, List.getElem?_cons_zero]); rfl) (by kernel_rfl) (by kernel_rfl) (by kernel_rfl) (by exact fun _ _ _ h => h) (Or.inl ⟨by rfl, ?_⟩) (by assumption) ?_); rotate_left; focus (intro wS hSw; (try dsimp only at hSw); go_simp; first | done | with_reducible rfl); try simp only [Act.put, List.setIfInBounds_toArray, List.set_cons_zero, List.set_cons_succ])
  ((refine wpAnyH_take (i := 3) (v := ?_) (by (simp only [List.getElem?_toArray, List.getElem?_cons_succ, List.getElem?_cons_zero]); rfl) (by kernel_rfl) (by kernel_rfl) (by kernel_rfl) (by exact fun _ _ _ h => h) (Or.inl ⟨by rfl, ?_⟩) (by assumption) ?_); rotate_left; focus (intro wS hSw; (try dsimp only at hSw); go_simp; first | done | with_reducible rfl); try simp only [Act.put, List.setIfInBounds_toArray, List.set_cons_zero, List.set_cons_succ])
  ((refine wpAnyH_take (i := 4) (v := ?_) (by (simp only [List.getElem?_toArray, List.getElem?_cons_succ, List.getElem?_cons_zero]); rfl) (by kernel_rfl) (by kernel_rfl) (by kernel_rfl) (by exact fun _ _ _ h => h) (Or.inl ⟨by rfl, ?_⟩) (by assumption) ?_); rotate_left; focus (intro wS hSw; (try dsimp only at hSw); go_simp; first | done | with_reducible rfl); try simp only [Act.put, List.setIfInBounds_toArray, List.set_cons_zero, List.set_cons_succ])
  ((refine wpAnyH_take (i := 5) (v := ?_) (by (simp only [List.getElem?_toArray, List.getElem?_cons_succ, List.getElem?_cons_zero]); rfl) (by kernel_rfl) (by kernel_rfl) (by kernel_rfl) (by exact fun _ _ _ h => h) (Or.inl ⟨by rfl, ?_⟩) (by assumption) ?_); rotate_left; focus (intro wS hSw; (try dsimp only at hSw); go_simp; first | done | with_reducible rfl); try simp only [Act.put, List.setIfInBounds_toArray, List.set_cons_zero, List.set_cons_succ])
  ((refine wpAnyH_take (i := 6) (v := ?_) (by (simp only [List.getElem?_toArray, List.getElem?_cons_succ, List.getElem?_cons_zero]); rfl) (by kernel_rfl) (by kernel_rfl) (by kernel_rfl) (by exact fun _ _ _ h => h) (Or.inl ⟨by rfl, ?_⟩) (by assumption) ?_); rotate_left; focus (intro wS hSw; (try dsimp only at hSw); go_simp; first | done | with_reducible rfl); try simp only [Act.put, List.setIfInBounds_toArray, List.set_cons_zero, List.set_cons_succ])
  ((refine wpAnyH_take (i := 7) (v := ?_) (by (simp only [List.getElem?_toArray, List.getElem?_cons_succ, List.getElem?_cons_zero]); rfl) (by kernel_rfl) (by kernel_rfl) (by kernel_rfl) (by exact fun _ _ _ h => h) (Or.inl ⟨by rfl, ?_⟩) (by assumption) ?_); rotate_left; focus (intro wS hSw; (try dsimp only at hSw); go_simp; first | done | with_reducible rfl); try simp only [Act.put, List.setIfInBounds_toArray, List.set_cons_zero, List.set_cons_succ])
  ((refine wpAnyH_ready (rs := [8]) (by kernel_rfl) (by simp) ?_); (refine AllReadyH.cons (by (simp only [List.getElem?_toArray, List.getElem?_cons_succ, List.getElem?_cons_zero]); rfl) (fun K hK => ?_) AllReadyH.nil); go_simp; go_fit (HR.out _ HH1.out.fr))
  rintro e W2 ⟨rfl, ⟨ft', c', hf2, hg2, ht2⟩, hb2⟩
  have HG2 : Hid (Fr [g, fo, ft] w W2) := Lib.hid ((((Fr.of_below (belowN (Below.refl w.heap.size w) 1)).mono (by simp)) : Fr [g, fo, ft] w w.drew).trans hg2 (fun x hx => .inl hx))
  have HT2 : Hid (ft' = ft ∨ w.heap.size ≤ ft') := Lib.hid ht2
  have HH2 := Lib.hid (HH1.out.bg hb2 hf2)
  have HB2 := Lib.hid (HB1.out.trans hb2.g)
  clear hb2 hf2 hg2 ht2 HH1 HB1
  go_wp2_with fail
  refine hK.out _ _ ⟨cell_at HH2.out.hF 0, cell_at HH2.out.hH 0, HC.out _ HB2.out⟩ (fun hHeld => ?_)
  clear hK K
  try simp only [Act.put, List.setIfInBounds_toArray, List.set_cons_zero, List.set_cons_succ]
  refine wpAnyH_done (by kernel_rfl) ?_ _
  try simp only [Act.put, List.setIfInBounds_toArray, List.set_cons_zero, List.set_cons_succ]
  obtain ⟨ar, cr, rfl, hr1, hr2, hr3⟩ := HH2.out.row.shape
  have HZC : Hid (W2.cell? ⟨fo, k * 3 + 1, none⟩ = some (.int .u16 Z)) := Lib.hid (by have := (HH2.out.fr.fl.cell HK.out).2.1; rw [this]; show some (Value.int .u16 (upf s.z k Z k)) = _; rw [upf_at])
  clear hr3
  go_upto_region 1 with fail
  refine wp_region_held_drew (S := fun X => X.cell? ⟨fo, k * 3 + 1, none⟩ = some (.int .u16 Z)) (by kernel_rfl) HZC.out (fun hHeld => ?_)
  try simp only [Act.put, List.setIfInBounds_toArray, List.set_cons_zero, List.set_cons_succ]
  have Bz := belowN (Below.refl W2.heap.size W2) 1
  have HH3 := Lib.hid (show EaAt W2.drew M g fo ft' n c1 c' wt al (hearS (wt k) al k Z s) bF bH bR (some ⟨hb, ho, none⟩) cap (.slice ar k cr) ob (rdy (hsz E)) k from HH2.out.step Bz)
  have HB3 : Hid (BG M w W2.drew) := Lib.hid (HB2.out.trans (BG.new Bz HH2.out.fr.size))
  clear Bz HH2 HB2
  ((refine wpAnyH_take (i := 1) (v := ?_) (by (simp only [List.getElem?_toArray, List.getElem?_cons_succ, List.getElem?_cons_zero]); rfl) (by kernel_rfl) (by kernel_rfl) (by kernel_rfl) (by exact fun _ _ _ h => h) (Or.inl ⟨by rfl, ?_⟩) (by assumption) ?_); rotate_left; focus (intro wS hSw; (try dsimp only at hSw); go_simp; first | done | with_reducible rfl); try simp only [Act.put, List.setIfInBounds_toArray, List.set_cons_zero, List.set_cons_succ])
  ((refine wpAnyH_take (i := 2) (v := ?_) (by (simp only [List.getElem?_toArray, List.getElem?_cons_succ, List.getElem?_cons_zero]); rfl) (by kernel_rfl) (by kernel_rfl) (by kernel_rfl) (by exact fun _ _ _ h => h) (Or.inl ⟨by rfl, ?_⟩) (by assumption) ?_); rotate_left; focus (intro wS hSw; (try dsimp only at hSw); go_simp; first | done | with_reducible rfl); try simp only [Act.put, List.setIfInBounds_toArray, List.set_cons_zero, List.set_cons_succ])
  ((refine wpAnyH_take (i := 3) (v := ?_) (by (simp only [List.getElem?_toArray, List.getElem?_cons_succ, List.getElem?_cons_zero]); rfl) (by kernel_rfl) (by kernel_rfl) (by kernel_rfl) (by exact fun _ _ _ h => h) (Or.inl ⟨by rfl, ?_⟩) (by assumption) ?_); rotate_left; focus (intro wS hSw; (try dsimp only at hSw); go_simp; first | done | with_reducible rfl); try simp only [Act.put, List.setIfInBounds_toArray, List.set_cons_zero, List.set_cons_succ])
  ((refine wpAnyH_take (i := 4) (v := ?_) (by (simp only [List.getElem?_toArray, List.getElem?_cons_succ, List.getElem?_cons_zero]); rfl) (by kernel_rfl) (by kernel_rfl) (by kernel_rfl) (by exact fun _ _ _ h => h) (Or.inl ⟨by rfl, ?_⟩) (by assumption) ?_); rotate_left; focus (intro wS hSw; (try dsimp only at hSw); go_simp; first | done | with_reducible rfl); try simp only [Act.put, List.setIfInBounds_toArray, List.set_cons_zero, List.set_cons_succ])
  ((refine wpAnyH_take (i := 5) (v := ?_) (by (simp only [List.getElem?_toArray, List.getElem?_cons_succ, List.getElem?_cons_zero]); rfl) (by kernel_rfl) (by kernel_rfl) (by kernel_rfl) (by exact fun _ _ _ h => h) (Or.inl ⟨by rfl, ?_⟩) (by assumption) ?_); rotate_left; focus (intro wS hSw; (try dsimp only at hSw); go_simp; first | done | with_reducible rfl); try simp only [Act.put, List.setIfInBounds_toArray, List.set_cons_zero, List.set_cons_succ])
  have HA : Hid (Below W2.drew.heap.size W2.drew (W2.drew.alloc (.cells #[.bool (decide (0 < Z))] 4))) := Lib.hid (alloc_b _ _)
  have e0 : W2.drew.cell? ⟨bR, 0, none⟩ = some (.slice ar k cr) := cell_at HH3.out.hR 0
  have ebl : bR < W2.heap.size := HH3.out.hR.lt
  have e2 : W2.cell? ⟨bR, 0, none⟩ = some (.slice ar k cr) := e0
  have ebl2 : bR < W2.drew.heap.size := HH3.out.hR.lt
  have e1 : (W2.drew.alloc (.cells #[.bool (decide (0 < Z))] 4)).cell? ⟨bR, 0, none⟩ = some (.slice ar k cr) := cell_at (HH3.out.hR.step HA.out) 0
  have HZ3 : Hid ((W2.drew.alloc (.cells #[.bool (decide (0 < Z))] 4)).cell? ⟨fo, k * 3 + 1, none⟩ = some (.int .u16 Z)) := Lib.hid ((HA.out.cell (p := ⟨fo, _, none⟩) HH3.out.fr.fl.lt).trans HZC.out)
  have HGR := Lib.hid (bo_grow (M := M) (ty := 0) (R := rdy (hsz E)) (W := W2.drew.alloc (.cells #[.bool (decide (0 < Z))] 4)) (n := k) (HH3.out.row.congr fun q e => by subst e; exact HA.out.block q HH3.out.row.lt) HH3.out.hO (by rw [HRD.out]; exact blk_new W2.drew #[.bool (decide (0 < Z))] 4) (Nat.le_trans HH3.out.fr.size HA.out.size) (by have := HN8.out; have := HK.out; omega))
  refine wpAnyH_ready (rs := [0, 6]) (by kernel_rfl) (by simp) ?_
  refine AllReadyH.cons (by (simp only [List.getElem?_toArray, List.getElem?_cons_succ, List.getElem?_cons_zero]); rfl) (fun K hK => ?_) (AllReadyH.cons (by (simp only [List.getElem?_toArray, List.getElem?_cons_succ, List.getElem?_cons_zero]); rfl) (fun K hK => ?_) AllReadyH.nil)
  · skip
    go_simp
    refine hK _ _ HZC.out (fun hHeld => ?_)
    clear hK K
    try simp only [Act.put, List.setIfInBounds_toArray, List.set_cons_zero, List.set_cons_succ]
    refine wpAnyH_ready (rs := [6]) (by kernel_rfl) (by simp) ?_
    refine AllReadyH.cons (by (simp only [List.getElem?_toArray, List.getElem?_cons_succ, List.getElem?_cons_zero]); rfl) (fun K hK => ?_) AllReadyH.nil
    go_simp
    refine hK _ _ HZ3.out (fun hHeld => ?_)
    clear hK K
    try simp only [Act.put, List.setIfInBounds_toArray, List.set_cons_zero, List.set_cons_succ]
    obtain ⟨v', ob', W5, hrun, hrow5, hg5, hn5, hb5, hm5⟩ := HGR.out
    have hrun5 : ∀ ty, (Builtin.append_ #[41, 41] ty #[.slice ar k cr, .slice (some ⟨W2.drew.heap.size, 0, none⟩) 1 1]).run Try.prog (W2.drew.alloc (.cells #[.bool (decide (0 < Z))] 4)) = .ok v' W5 := fun ty => hrun
    obtain ⟨a6, c6, rfl, _, _, rfl⟩ := hrow5.shape
    obtain ⟨W6, hW6⟩ : ∃ W, W = W5.setCell ⟨bR, 0, none⟩ (.slice (some ⟨ob', 0, none⟩) (k + 1) c6) := ⟨_, rfl⟩
    obtain ⟨hh6, hb6, hf6, f0, fz, fl⟩ := HH3.out.put HA.out hrow5 hg5 hn5 hm5 hW6
    have HZ5 : Hid (W5.cell? ⟨fo, k * 3 + 1, none⟩ = some (.int .u16 Z)) := Lib.hid (by
      have h9 := (HH3.out.step HA.out).fr
      obtain ⟨cf, hcf, _⟩ := h9.fl
      have : W5.heap[fo]? = (W2.drew.alloc (.cells #[.bool (decide (0 < Z))] 4)).heap[fo]? := hg5.block fo hcf.lt (fun e => by
        have hrw := (HH3.out.step HA.out).row
        rw [← e] at hrw
        exact row_blk_ne hrw hcf (by decide) rfl)
      exact (World.cell?_of_block (a := ⟨fo, _, none⟩) this).trans HZ3.out)
    have HH6 := Lib.hid hh6
    have HB6 := Lib.hid (HB3.out.trans hb6)
    have HF6 : Hid (Fr (g :: fo :: ft :: bR :: ob.toList) w W6) := Lib.hid (((HG2.out.mono (l' := g :: fo :: ft :: bR :: ob.toList) (by simp)).trans (Fr.of_below (belowN (Below.refl W2.heap.size W2) 1)) (by simp)).trans hf6 (fun x hx => .inl (List.mem_cons_of_mem _ (List.mem_cons_of_mem _ (List.mem_cons_of_mem _ hx)))))
    have HO6 : Hid (ob = some ob' ∨ w.heap.size ≤ ob') := Lib.hid (by
      rcases hn5 with h | h
      · exact .inl h
      · have := HG2.out.size
        simp at h
        exact .inr (by omega))
    refine wpAnyH_ready (rs := [7]) (by kernel_rfl) (by simp) ?_
    refine AllReadyH.cons (by (simp only [List.getElem?_toArray, List.getElem?_cons_succ, List.getElem?_cons_zero]); rfl) (fun K hK => ?_) AllReadyH.nil
    rw [if_pos (by rfl)]
    refine op_append_run (.tmp 16) (.tmp 22) 41 (by kernel_rfl) (by kernel_rfl) (by kernel_rfl) (hrun5 _) ?_
    refine hK _ _ HZ5.out (fun hHeld => ?_)
    clear hK K
    try simp only [Act.put, List.setIfInBounds_toArray, List.set_cons_zero, List.set_cons_succ]
    refine wpAnyH_ready (rs := [8]) (by kernel_rfl) (by simp) ?_
    refine AllReadyH.cons (by (simp only [List.getElem?_toArray, List.getElem?_cons_succ, List.getElem?_cons_zero]); rfl) (fun K hK => ?_) AllReadyH.nil
    go_simp
    rw [← hW6]
    refine hK _ _ (by have := (HH6.out.fr.fl.cell HK.out).2.1; rw [this]; show some (Value.int .u16 (upf s.z k Z k)) = _; rw [upf_at]) (fun hHeld => ?_)
    clear hK K
    try simp only [Act.put, List.setIfInBounds_toArray, List.set_cons_zero, List.set_cons_succ]
    refine wpAnyH_done (by kernel_rfl) ?_ _
    try simp only [Act.put, List.setIfInBounds_toArray, List.set_cons_zero, List.set_cons_succ]
    go_wp2_with fail
    go_end0
    exact ⟨rfl, ⟨_, _, _, _, by rw [← HZ.out]; exact HH6.out, HF6.out, HT2.out, HO6.out⟩, HB6.out⟩
  · skip
    go_simp
    refine hK _ _ HZ3.out (fun hHeld => ?_)
    clear hK K
    try simp only [Act.put, List.setIfInBounds_toArray, List.set_cons_zero, List.set_cons_succ]
    refine wpAnyH_ready (rs := [0]) (by kernel_rfl) (by simp) ?_
    refine AllReadyH.cons (by (simp only [List.getElem?_toArray, List.getElem?_cons_succ, List.getElem?_cons_zero]); rfl) (fun K hK => ?_) AllReadyH.nil
    go_simp
    refine hK _ _ HZ3.out (fun hHeld => ?_)
    clear hK K
    try simp only [Act.put, List.setIfInBounds_toArray, List.set_cons_zero, List.set_cons_succ]
    obtain ⟨v', ob', W5, hrun, hrow5, hg5, hn5, hb5, hm5⟩ := HGR.out
    have hrun5 : ∀ ty, (Builtin.append_ #[41, 41] ty #[.slice ar k cr, .slice (some ⟨W2.drew.heap.size, 0, none⟩) 1 1]).run Try.prog (W2.drew.alloc (.cells #[.bool (decide (0 < Z))] 4)) = .ok v' W5 := fun ty => hrun
    obtain ⟨a6, c6, rfl, _, _, rfl⟩ := hrow5.shape
    obtain ⟨W6, hW6⟩ : ∃ W, W = W5.setCell ⟨bR, 0, none⟩ (.slice (some ⟨ob', 0, none⟩) (k + 1) c6) := ⟨_, rfl⟩
    obtain ⟨hh6, hb6, hf6, f0, fz, fl⟩ := HH3.out.put HA.out hrow5 hg5 hn5 hm5 hW6
    have HZ5 : Hid (W5.cell? ⟨fo, k * 3 + 1, none⟩ = some (.int .u16 Z)) := Lib.hid (by
      have h9 := (HH3.out.step HA.out).fr
      obtain ⟨cf, hcf, _⟩ := h9.fl
      have : W5.heap[fo]? = (W2.drew.alloc (.cells #[.bool (decide (0 < Z))] 4)).heap[fo]? := hg5.block fo hcf.lt (fun e => by
        have hrw := (HH3.out.step HA.out).row
        rw [← e] at hrw
        exact row_blk_ne hrw hcf (by decide) rfl)
      exact (World.cell?_of_block (a := ⟨fo, _, none⟩) this).trans HZ3.out)
    have HH6 := Lib.hid hh6
    have HB6 := Lib.hid (HB3.out.trans hb6)
    have HF6 : Hid (Fr (g :: fo :: ft :: bR :: ob.toList) w W6) := Lib.hid (((HG2.out.mono (l' := g :: fo :: ft :: bR :: ob.toList) (by simp)).trans (Fr.of_below (belowN (Below.refl W2.heap.size W2) 1)) (by simp)).trans hf6 (fun x hx => .inl (List.mem_cons_of_mem _ (List.mem_cons_of_mem _ (List.mem_cons_of_mem _ hx)))))
    have HO6 : Hid (ob = some ob' ∨ w.heap.size ≤ ob') := Lib.hid (by
      rcases hn5 with h | h
      · exact .inl h
      · have := HG2.out.size
        simp at h
        exact .inr (by omega))
    refine wpAnyH_ready (rs := [7]) (by kernel_rfl) (by simp) ?_
    refine AllReadyH.cons (by (simp only [List.getElem?_toArray, List.getElem?_cons_succ, List.getElem?_cons_zero]); rfl) (fun K hK => ?_) AllReadyH.nil
    rw [if_pos (by rfl)]
    refine op_append_run (.tmp 16) (.tmp 22) 41 (by kernel_rfl) (by kernel_rfl) (by kernel_rfl) (hrun5 _) ?_
    refine hK _ _ HZ5.out (fun hHeld => ?_)
    clear hK K
    try simp only [Act.put, List.setIfInBounds_toArray, List.set_cons_zero, List.set_cons_succ]
    refine wpAnyH_ready (rs := [8]) (by kernel_rfl) (by simp) ?_
    refine AllReadyH.cons (by (simp only [List.getElem?_toArray, List.getElem?_cons_succ, List.getElem?_cons_zero]); rfl) (fun K hK => ?_) AllReadyH.nil
    go_simp
    rw [← hW6]
    refine hK _ _ (by have := (HH6.out.fr.fl.cell HK.out).2.1; rw [this]; show some (Value.int .u16 (upf s.z k Z k)) = _; rw [upf_at]) (fun hHeld => ?_)
    clear hK K
    try simp only [Act.put, List.setIfInBounds_toArray, List.set_cons_zero, List.set_cons_succ]
    refine wpAnyH_done (by kernel_rfl) ?_ _
    try simp only [Act.put, List.setIfInBounds_toArray, List.set_cons_zero, List.set_cons_succ]
    go_wp2_with fail
    go_end0
    exact ⟨rfl, ⟨_, _, _, _, by rw [← HZ.out]; exact HH6.out, HF6.out, HT2.out, HO6.out⟩, HB6.out⟩
end Go.Proofs.Ytnainlemnkfpkaa
