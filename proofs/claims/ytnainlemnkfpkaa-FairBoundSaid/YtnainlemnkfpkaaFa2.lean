/-
  A scheduler in memory.
-/
import Derived.Test.YtnainlemnkfpkaaFa1
import Derived.Test.YtnainlemnkfpkaaHiB
import Derived.Test.YtnainlemnkfpkaaVu14
import Derived.Test.YtnainlemnkfpkaaVu15
import Derived.Test.YtnainlemnkfpkaaVu24
import Derived.Deep.DeepFit
namespace Go.Proofs.Ytnainlemnkfpkaa
open Go.RowKit
set_option linter.unusedSimpArgs false
set_option linter.unusedVariables false

theorem belowN {B : Nat} {w X : World} (h : Below B w X) (n : Nat) : Below B w (X.drewN n) := ⟨h.os, h.tape, h.output, h.size, h.block⟩
/-- blocks of kinds other than these stay -/
def TyL (l : List TypeId) (W W' : World) : Prop := ∀ q cs ty, Blk W q cs ty → ty ∉ l → Blk W' q cs ty
theorem TyL.refl (l : List TypeId) (W : World) : TyL l W W := fun _ _ _ h _ => h
theorem TyL.trans {l : List TypeId} {a b c : World} (h : TyL l a b) (k : TyL l b c) : TyL l a c := fun q cs ty hb h1 => k q cs ty (h q cs ty hb h1) h1
theorem TyL.of_below {l : List TypeId} {W W' : World} (h : Below W.heap.size W W') : TyL l W W' := fun _ _ _ hb _ => hb.step h
theorem TyL.of_fr {l : List TypeId} {L : List Nat} {W W' : World} (h : Fr L W W') (hL : ∀ q ∈ L, ∃ cs ty, Blk W q cs ty ∧ ty ∈ l) : TyL l W W' := by
  intro q cs ty hb h1
  refine (h.block q hb.lt fun hm => ?_).trans hb
  obtain ⟨cs', ty', hb', ht'⟩ := hL q hm
  have := hb.symm.trans hb'
  injection this with e'
  injection e' with e1 e2
  exact h1 (e2 ▸ ht')
def fTy : List TypeId := [60, 63, 80]
structure BF (M : Nat) (W W' : World) : Prop where
  b : Below M W W'
  t : TyL fTy W W'
theorem BF.refl (M : Nat) (W : World) : BF M W W := ⟨Below.refl _ _, TyL.refl _ _⟩
theorem BF.trans {M : Nat} {a b c : World} (h : BF M a b) (k : BF M b c) : BF M a c := ⟨h.b.trans k.b, h.t.trans k.t⟩
theorem BF.size {M : Nat} {a b : World} (h : BF M a b) : a.heap.size ≤ b.heap.size := h.b.size
theorem BF.new {M : Nat} {W W' : World} (h : Below W.heap.size W W') (hM : M ≤ W.heap.size) : BF M W W' := ⟨h.mono hM, TyL.of_below h⟩
theorem blk_row {W : World} {v : Value} {g : Nat} {e : TypeId} {s n : Nat} {xs : List Value} (h : Row W v (some g) e s n xs) : ∃ cs, Blk W g cs e := by
  rcases h.cases with ⟨he, _⟩ | ⟨g1, cap, cur, he, _, h3, _⟩
  · cases he
  · obtain rfl := Option.some.inj he
    exact ⟨cur, h3⟩
/-- what a scheduler knows of its flows beside their tags -/
structure FlAt (W : World) (fo n : Nat) (wt z : Nat → Int) (sv : Nat → Bool) : Prop where
  ex : ∃ cs, Blk W fo cs 63 ∧ ∀ k, k < n → cs[k * 3]? = some (.int .u8 (wt k)) ∧ cs[k * 3 + 1]? = some (.int .u16 (z k)) ∧ cs[k * 3 + 2]? = some (.bool (sv k))
theorem FlAt.fr {W W' : World} {fo n : Nat} {wt z : Nat → Int} {sv : Nat → Bool} {l : List Nat} (h : FlAt W fo n wt z sv) (hf : Fr l W W') (hn : fo ∉ l) : FlAt W' fo n wt z sv := by
  obtain ⟨cs, hb, hc⟩ := h
  exact ⟨cs, (hf.block fo hb.lt hn).trans hb, hc⟩
theorem FlAt.lt {W : World} {fo n : Nat} {wt z : Nat → Int} {sv : Nat → Bool} (h : FlAt W fo n wt z sv) : fo < W.heap.size := by
  obtain ⟨cs, hb, hc⟩ := h
  exact hb.lt
theorem FlAt.cell {W : World} {fo n : Nat} {wt z : Nat → Int} {sv : Nat → Bool} (h : FlAt W fo n wt z sv) {k : Nat} (hk : k < n) : W.cell? ⟨fo, k * 3, none⟩ = some (.int .u8 (wt k)) ∧ W.cell? ⟨fo, k * 3 + 1, none⟩ = some (.int .u16 (z k)) ∧ W.cell? ⟨fo, k * 3 + 2, none⟩ = some (.bool (sv k)) ∧ ∀ j, W.frozen? ⟨fo, j, none⟩ = false := by
  obtain ⟨cs, hb, hc⟩ := h
  obtain ⟨c0, c1, c2⟩ := hc k hk
  exact ⟨(cell_at hb _).trans c0, (cell_at hb _).trans c1, (cell_at hb _).trans c2, fun j => free_at hb j⟩
theorem FlAt.put {W W' : World} {fo n : Nat} {wt z : Nat → Int} {sv : Nat → Bool} (h : FlAt W fo n wt z sv) {k : Nat} (hk : k < n) (m : Int) (b : Bool) (hW : W' = (W.setCell ⟨fo, k * 3 + 1, none⟩ (.int .u16 m)).setCell ⟨fo, k * 3 + 2, none⟩ (.bool b)) : FlAt W' fo n wt (upf z k m) (upf sv k b) ∧ Fr [fo] W W' := by
  obtain ⟨cs, hb, hc⟩ := h
  subst hW
  refine ⟨⟨_, (hb.set _ _).set _ _, fun j hj => ?_⟩, ((Fr.refl _ _).setCell _ (.inl (by simp)) _).setCell _ (.inl (by simp)) _⟩
  obtain ⟨c0, c1, c2⟩ := hc j hj
  obtain ⟨k0, k1, k2⟩ := hc k hk
  have hs1 := (Array.getElem?_eq_some_iff.1 k1).1
  have hs2 := (Array.getElem?_eq_some_iff.1 k2).1
  simp only [Array.getElem?_setIfInBounds, Array.size_setIfInBounds]
  by_cases hjk : j = k
  · subst hjk
    rw [upf_at, upf_at]
    refine ⟨?_, ?_, ?_⟩
    · rw [if_neg (by omega), if_neg (by omega)]; exact c0
    · rw [if_neg (by omega), if_pos rfl, if_pos hs1]
    · rw [if_pos rfl, if_pos hs2]
  · rw [upf_ne _ _ hjk, upf_ne _ _ hjk]
    refine ⟨?_, ?_, ?_⟩
    · rw [if_neg (by omega), if_neg (by omega)]; exact c0
    · rw [if_neg (by omega), if_neg (by omega)]; exact c1
    · rw [if_neg (by omega), if_neg (by omega)]; exact c2
theorem FlAt.put1 {W W' : World} {fo n : Nat} {wt z : Nat → Int} {sv : Nat → Bool} (h : FlAt W fo n wt z sv) {k : Nat} (hk : k < n) (b : Bool) (hW : W' = W.setCell ⟨fo, k * 3 + 2, none⟩ (.bool b)) : FlAt W' fo n wt z (upf sv k b) ∧ Fr [fo] W W' := by
  obtain ⟨cs, hb, hc⟩ := h
  subst hW
  refine ⟨⟨_, hb.set _ _, fun j hj => ?_⟩, (Fr.refl _ _).setCell _ (.inl (by simp)) _⟩
  obtain ⟨c0, c1, c2⟩ := hc j hj
  obtain ⟨k0, k1, k2⟩ := hc k hk
  have hs2 := (Array.getElem?_eq_some_iff.1 k2).1
  simp only [Array.getElem?_setIfInBounds]
  by_cases hjk : j = k
  · subst hjk
    rw [upf_at]
    refine ⟨?_, ?_, ?_⟩
    · rw [if_neg (by omega)]; exact c0
    · rw [if_neg (by omega)]; exact c1
    · rw [if_pos rfl, if_pos hs2]
  · rw [upf_ne _ _ hjk]
    refine ⟨?_, ?_, ?_⟩
    · rw [if_neg (by omega)]; exact c0
    · rw [if_neg (by omega)]; exact c1
    · rw [if_neg (by omega)]; exact c2
/-- a scheduler in memory -/
structure FrAt (W : World) (M g fo ft n c1 c2 : Nat) (wt : Nat → Int) (al : Int) (s : FS) : Prop where
  blk : Blk W g #[.slice (some ⟨fo, 0, none⟩) n c1, .int .i64 al, .int .i64 s.V, .slice (some ⟨ft, 0, none⟩) n c2] 60
  fl : FlAt W fo n wt s.z s.sv
  cp : n ≤ c1 ∧ c1 ≤ maxLen
  tg : Row W (.slice (some ⟨ft, 0, none⟩) n c2) (some ft) 80 2 n (tagsL s.T n)
  ge : M ≤ g ∧ M ≤ fo ∧ M ≤ ft
theorem FrAt.fr {W W' : World} {M g fo ft n c1 c2 : Nat} {wt : Nat → Int} {al : Int} {s : FS} (h : FrAt W M g fo ft n c1 c2 wt al s) {l : List Nat} (hf : Fr l W W') (h1 : g ∉ l) (h2 : fo ∉ l) (h3 : ft ∉ l) : FrAt W' M g fo ft n c1 c2 wt al s :=
  ⟨(hf.block g h.blk.lt h1).trans h.blk, h.fl.fr hf h2, h.cp, h.tg.congr fun q e => by obtain rfl := Option.some.inj e; exact hf.block _ h.tg.lt h3, h.ge⟩
theorem FrAt.step {W W' : World} {M g fo ft n c1 c2 : Nat} {wt : Nat → Int} {al : Int} {s : FS} (h : FrAt W M g fo ft n c1 c2 wt al s) (hB : Below W.heap.size W W') : FrAt W' M g fo ft n c1 c2 wt al s := h.fr (Fr.of_below hB) (by simp) (by simp) (by simp)
theorem FrAt.size {W : World} {M g fo ft n c1 c2 : Nat} {wt : Nat → Int} {al : Int} {s : FS} (h : FrAt W M g fo ft n c1 c2 wt al s) : M ≤ W.heap.size := by have := h.blk.lt; have := h.ge; omega
theorem FrAt.ne {W : World} {M g fo ft n c1 c2 : Nat} {wt : Nat → Int} {al : Int} {s : FS} (h : FrAt W M g fo ft n c1 c2 wt al s) : g ≠ fo ∧ g ≠ ft ∧ fo ≠ ft := by
  have dis : ∀ {x : Nat} {a b : Array Value} {t u : TypeId}, Blk W x a t → Blk W x b u → t ≠ u → False := fun h1 h2 hn => by
    have := h1.symm.trans h2
    injection this with e'
    injection e' with e1 e2
    exact hn e2
  obtain ⟨cs, hb, _⟩ := h.fl
  obtain ⟨ct, hc⟩ := blk_row h.tg
  refine ⟨?_, ?_, ?_⟩
  · rintro rfl; exact dis h.blk hb (by decide)
  · rintro rfl; exact dis h.blk hc (by decide)
  · rintro rfl; exact dis hb hc (by decide)
theorem FrAt.frame {W W' : World} {M g fo ft n c1 c2 : Nat} {wt : Nat → Int} {al : Int} {s : FS} (h : FrAt W M g fo ft n c1 c2 wt al s) {l : List Nat} (hf : Fr l W W') (hl : ∀ q ∈ l, q = g ∨ q = fo ∨ q = ft) : BF M W W' := by
  have hg := h.ge
  refine ⟨hf.below h.size (fun q hq => by rcases hl q hq with e | e | e <;> omega), TyL.of_fr hf fun q hq => ?_⟩
  rcases hl q hq with rfl | rfl | rfl
  · exact ⟨_, _, h.blk, by simp [fTy]⟩
  · obtain ⟨cs, hb, _⟩ := h.fl; exact ⟨_, _, hb, by simp [fTy]⟩
  · obtain ⟨cs, hb⟩ := blk_row h.tg; exact ⟨_, _, hb, by simp [fTy]⟩
theorem FrAt.tags {W : World} {M g fo ft n c1 c2 : Nat} {wt : Nat → Int} {al : Int} {s : FS} (h : FrAt W M g fo ft n c1 c2 wt al s) (hi : Inv n s) : TagsIn W (some ⟨ft, 0, none⟩) n c2 ft 0 s.T := by
  obtain ⟨a', c', he, ht⟩ := tags_row h.tg (fun k hk => hi.tok k hk)
  injection he with e1 e2 e3
  subst e1 e3
  exact ht
theorem vout_own {w w' : World} {v : Value} {V : Int} {n : Nat} {T : Nat → TagsE} (h : VOut w w' v V n T) (hn : 0 < n) : ∃ ft c, v = .agg #[.int .i64 V, .slice (some ⟨ft, 0, none⟩) n c] ∧ Row w' (.slice (some ⟨ft, 0, none⟩) n c) (some ft) 80 2 n (tagsL T n) ∧ w.heap.size ≤ ft ∧ Below w.heap.size w w' := by
  obtain ⟨a, c, ob, rfl, hR, hO, hB⟩ := h
  obtain ⟨g, rfl, rfl, _⟩ := own_k hR hn
  exact ⟨g, c, rfl, hR, hO g rfl, hB⟩
set_option maxRecDepth 100000 in
set_option maxHeartbeats 4000000 in
theorem set_ok (V' : Int) (T' : Nat → TagsE) (ft' c' : Nat) (M g fo ft n c1 c2 : Nat) (wt : Nat → Int) (al : Int) (s : FS) (w : World) (h : FrAt w M g fo ft n c1 c2 wt al s) (hr : Row w (.slice (some ⟨ft', 0, none⟩) n c') (some ft') 80 2 n (tagsL T' n)) (hM : M ≤ ft') :
    Calls Try.prog 29 #[.pointer (some ⟨g, 0, none⟩), .agg #[.int .i64 V', .slice (some ⟨ft', 0, none⟩) n c'], .int .i64 0] w fun e w' => e = .returned (.tuple #[]) ∧ FrAt w' M g fo ft' n c1 c' wt al ⟨V', T', s.z, s.sv⟩ ∧ BF M w w' ∧ Fr [g] w w' := by
  obtain ⟨N, hN⟩ : ∃ N, N = w.heap.size := ⟨_, rfl⟩
  obtain ⟨W1, hW1⟩ : ∃ W, W = w.alloc (.cells #[.int .i64 V', .slice (some ⟨ft', 0, none⟩) n c'] 39) := ⟨_, rfl⟩
  have hB1 : Below w.heap.size w W1 := by rw [hW1]; exact (Below.refl _ _).alloc (Nat.le_refl _) _
  have hb1 : Blk W1 N #[.int .i64 V', .slice (some ⟨ft', 0, none⟩) n c'] 39 := by rw [hW1, hN]; exact blk_new _ _ _
  have h1 := h.step hB1
  have c0 : W1.cell? ⟨N, 0, none⟩ = some (.int .i64 V') := cell_at hb1 0
  have d0 : W1.cell? ⟨N, 1, none⟩ = some (.slice (some ⟨ft', 0, none⟩) n c') := cell_at hb1 1
  have e2 : W1.cell? ⟨g, 2, none⟩ = some (.int .i64 s.V) := cell_at h1.blk 2
  have e3 : W1.cell? ⟨g, 3, none⟩ = some (.slice (some ⟨ft, 0, none⟩) n c2) := cell_at h1.blk 3
  have ez : ∀ j, W1.frozen? ⟨g, j, none⟩ = false := fun j => free_at h1.blk j
  have el : g < W1.heap.size := h1.blk.lt
  obtain ⟨W2, hW2⟩ : ∃ W, W = (W1.setCell ⟨g, 2, none⟩ (.int .i64 V')).setCell ⟨g, 3, none⟩ (.slice (some ⟨ft', 0, none⟩) n c') := ⟨_, rfl⟩
  have hf2 : Fr [g] W1 W2 := by rw [hW2]; exact ((Fr.refl _ _).setCell _ (.inl (by simp)) _).setCell _ (.inl (by simp)) _
  have hk2 : Blk W2 g #[.slice (some ⟨fo, 0, none⟩) n c1, .int .i64 al, .int .i64 V', .slice (some ⟨ft', 0, none⟩) n c'] 60 := by rw [hW2]; exact (h1.blk.set 2 _).set 3 _
  have hne := h1.ne
  have hgt : g ≠ ft' := by
    rintro rfl
    obtain ⟨ct, hc⟩ := blk_row hr
    have := hc.symm.trans h.blk
    injection this with e'
    injection e' with e1 e2
    revert e2
    decide
  have HR : Hid (FrAt W2 M g fo ft' n c1 c' wt al ⟨V', T', s.z, s.sv⟩ ∧ BF M w W2 ∧ Fr [g] w W2) := Lib.hid ⟨⟨hk2, h1.fl.fr hf2 (by simpa using fun e => hne.1 e.symm), h.cp, (hr.congr fun q e => by obtain rfl := Option.some.inj e; exact hB1.block _ hr.lt).congr fun q e => by
    obtain rfl := Option.some.inj e
    exact hf2.block _ (by have := hr.lt; have := hB1.size; omega) (by simpa using fun e => hgt e.symm), ⟨h.ge.1, h.ge.2.1, hM⟩⟩, (BF.new hB1 h.size).trans (h1.frame hf2 (by simp)), ((Fr.of_below hB1).mono (by simp)).trans hf2 (by simp)⟩
  clear hB1 hb1 h1 hf2 hk2 hne hgt h hr hM
  go_enter Try.func29, Try.ntmps29
  go_upto_region 1 with fail
  rw [← hN, ← hW1]
  clear hN hW1
  go_wp2_with fail
  rw [← hW2]
  go_end0
  exact ⟨rfl, HR.out⟩
end Go.Proofs.Ytnainlemnkfpkaa
