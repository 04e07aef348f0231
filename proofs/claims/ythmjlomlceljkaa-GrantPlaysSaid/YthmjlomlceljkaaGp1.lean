/-
  The document's desk.
-/
import Derived.Test.YthmjlomlceljkaaHiB
import Derived.Test.YthmjlomlceljkaaHic
import Derived.Deep.DeepFit
import Derived.Lib.AppendZeros
import Derived.Deep.RegionLaw
import Derived.Deep.RegionWith
import Derived.Lib.EndianBits
import Derived.Deep.MidRow
namespace Go.Proofs.Ythmjlomlceljkaa
open Go.RowKit
set_option linter.unusedSimpArgs false
set_option linter.unusedVariables false

/-- a lease's place in the document's row; -1: none -/
def fnd (x : Int) : Nat → List Int → Int
  | _, [] => -1
  | k, y :: l => if y = x then (k : Int) else fnd x (k + 1) l
theorem fnd_step {L : List Int} {k : Nat} {y : Int} (x : Int) (h : L[k]? = some y) : fnd x k (L.drop k) = if y = x then (k : Int) else fnd x (k + 1) (L.drop (k + 1)) := by
  have hk := (List.getElem?_eq_some_iff.1 h).1
  rw [List.drop_eq_getElem_cons hk]
  rw [List.getElem?_eq_getElem hk] at h
  obtain rfl := Option.some.inj h
  rfl
theorem fnd_end (x : Int) (L : List Int) (k : Nat) : fnd x k (L.drop L.length) = -1 := by rw [List.drop_length]; rfl
/-- blocks of other kinds stay -/
def TyF (W W' : World) : Prop := ∀ q cs ty, Blk W q cs ty → ty ≠ 75 → ty ≠ 3 → Blk W' q cs ty
theorem TyF.refl (W : World) : TyF W W := fun _ _ _ h _ _ => h
theorem TyF.trans {a b c : World} (h : TyF a b) (k : TyF b c) : TyF a c := fun q cs ty hb h1 h2 => k q cs ty (h q cs ty hb h1 h2) h1 h2
structure BT (M : Nat) (W W' : World) : Prop where
  b : Below M W W'
  t : TyF W W'
theorem BT.refl (M : Nat) (W : World) : BT M W W := ⟨Below.refl _ _, TyF.refl _⟩
theorem BT.trans {M : Nat} {a b c : World} (h : BT M a b) (k : BT M b c) : BT M a c := ⟨h.b.trans k.b, h.t.trans k.t⟩
theorem BT.size {M : Nat} {a b : World} (h : BT M a b) : a.heap.size ≤ b.heap.size := h.b.size
theorem bt_new {M : Nat} {W W' : World} (h : Below W.heap.size W W') (hM : M ≤ W.heap.size) : BT M W W' := ⟨h.mono hM, fun _ _ _ hb _ _ => hb.step h⟩
/-- the document's desk in memory -/
structure RDk (M : Nat) (W : World) (g : Nat) (tk rho el now : Int) (vl vt : Value) (ol ot : Option Nat) (Ls Ts : List Int) : Prop where
  blk : Blk W g #[.int .i64 tk, .int .i64 rho, .int .i64 el, .int .i64 now, vl, vt] 75
  ls : InO M W vl ol Ls
  ts : InO M W vt ot Ts
  ge : M ≤ g
  sep : ∀ x, ol = some x → ot ≠ some x
theorem RDk.step {M : Nat} {W W' : World} {g : Nat} {tk rho el now : Int} {vl vt : Value} {ol ot : Option Nat} {Ls Ts : List Int} (h : RDk M W g tk rho el now vl vt ol ot Ls Ts) (hB : Below W.heap.size W W') : RDk M W' g tk rho el now vl vt ol ot Ls Ts :=
  ⟨h.blk.step hB, h.ls.step hB, h.ts.step hB, h.ge, h.sep⟩
theorem InO.bty {M : Nat} {W W' : World} {Q : Nat} {cs : Array Value} {ty : TypeId} {v : Value} {ob : Option Nat} {L : List Int} (h : InO M W v ob L) (hb : Blk W Q cs ty) (hf : Fr [Q] W W') (hty : ty ≠ 3) : InO M W' v ob L := by
  refine ⟨h.1.congr fun g e => ?_, h.2⟩
  rcases h.1.cases with ⟨e1, _⟩ | ⟨g', cap, cur, e1, _, h4, _⟩
  · rw [e1] at e; cases e
  · rw [e1] at e
    obtain rfl := Option.some.inj e
    refine hf.block g' (Array.getElem?_eq_some_iff.1 h4).1 ?_
    simp only [List.mem_singleton]
    rintro rfl
    have := h4.symm.trans hb
    injection this with e'
    injection e' with e1 e2
    exact hty e2.symm
theorem tyF_set {W W' : World} {g j : Nat} {cs : Array Value} {v : Value} (hb : Blk W g cs 75) (hW : W' = W.setCell ⟨g, j, none⟩ v) : TyF W W' := by
  intro q c ty h h1 _
  rw [hW]
  refine (heap_setCell_ne _ _ _ _ (fun e => ?_)).trans h
  subst e
  have := h.symm.trans hb
  injection this with e'
  injection e' with e1 e2
  exact h1 e2
/-- a cell of the desk set: its rows stay -/
theorem RDk.set {M : Nat} {W W' : World} {g : Nat} {tk rho el now now' : Int} {vl vt : Value} {ol ot : Option Nat} {Ls Ts : List Int} (h : RDk M W g tk rho el now vl vt ol ot Ls Ts) (hW : W' = W.setCell ⟨g, 3, none⟩ (.int .i64 now')) (hM : M ≤ W.heap.size) : RDk M W' g tk rho el now' vl vt ol ot Ls Ts ∧ BT M W W' := by
  have hfr : Fr [g] W W' := by rw [hW]; exact (Fr.refl _ _).setCell _ (.inl (by simp)) _
  exact ⟨⟨by rw [hW]; exact h.blk.set 3 _, h.ls.bty h.blk hfr (by decide), h.ts.bty h.blk hfr (by decide), h.ge, h.sep⟩, hfr.below hM (by simp; exact h.ge), tyF_set h.blk hW⟩
theorem InO.ne {M : Nat} {W : World} {Q : Nat} {cs : Array Value} {ty : TypeId} {v : Value} {ob : Option Nat} {L : List Int} (h : InO M W v ob L) (hb : Blk W Q cs ty) (hty : ty ≠ 3) : ob ≠ some Q := by
  intro e
  rcases h.1.cases with ⟨e1, _⟩ | ⟨g', cap, cur, e1, _, h4, _⟩
  · rw [e1] at e; cases e
  · rw [e1] at e
    obtain rfl := Option.some.inj e
    have := h4.symm.trans hb
    injection this with e'
    injection e' with e1 e2
    exact hty e2.symm
theorem tyF_grown {M : Nat} {W W3 : World} {v : Value} {ol oc : Option Nat} {L : List Int} (h : InO M W v ol L) (hg : W.grownBy W3 oc) (ho : oc = none ∨ oc = ol) : TyF W W3 := by
  intro q c ty hb _ h2
  refine (hg.block q hb.lt (fun e => ?_)).trans hb
  rcases ho with rfl | rfl
  · cases e
  · exact h.ne hb h2 e.symm
/-- an int put behind a row of ints: which block grew -/
theorem in_grow {W : World} {M b : Nat} {ty : TypeId} {v : Value} {ob : Option Nat} {L : List Int} {x : Int} (h : InO M W v ob L) (hb : Blk W b #[.int .i64 x] 3) (ho : -9223372036854775808 ≤ x ∧ x ≤ 9223372036854775807) (hM : M ≤ W.heap.size) (hn : L.length ≤ 1000000) :
    ∃ v' ob' w', (Builtin.append_ #[33, 33] ty #[v, .slice (some ⟨b, 0, none⟩) 1 1]).run Try.prog W = .ok v' w' ∧ InO M w' v' (some ob') (L ++ [x]) ∧ W.grownBy w' ob ∧ (ob = some ob' ∨ ob' = W.heap.size) ∧ Below M W w' := by
  obtain ⟨r1, r4, r5⟩ := h
  obtain ⟨i0, hi, hz0, hz1, hz2⟩ := info_parts inZero
  obtain ⟨v', ob', w', hrun, s1, s2, s3⟩ := run_append_row (P := Try.prog) W 33 ty 3 i0 _ 1 8 Try.underlying33 hi hz0 hz1 hz2 rfl (by decide) v ob L.length (inL L) r1 ⟨b, 0, none⟩ 1 1 (inL [x]) (by decide) rfl (fun j u hu => by
    rw [addr_add, cell_at hb]
    have hj : j < 1 := (List.getElem?_eq_some_iff.1 hu).1
    obtain rfl : j = 0 := by omega
    simpa [inL] using hu) (inL_ones _) (by unfold maxLen; omega) (by omega)
  refine ⟨v', ob', w', hrun, ⟨by rw [List.length_append, inL_append]; exact s1, fun y hy => ?_, fun g e => ?_⟩, s2, s3, (Below.refl M W).grown s2 hM r5⟩
  · rcases List.mem_append.1 hy with h | h
    · exact r4 y h
    · simp at h; subst h; exact ho
  · obtain rfl := Option.some.inj e
    rcases s3 with h | h
    · exact r5 _ h
    · omega
theorem InO.grown {W w' : World} {M : Nat} {v : Value} {ob oc : Option Nat} {L : List Int} (h : InO M W v ob L) (hg : W.grownBy w' oc) (hd : ∀ g, ob = some g → oc ≠ some g) : InO M w' v ob L :=
  ⟨h.1.congr fun g e => hg.block g (by subst e; exact h.1.lt) (fun e9 => hd g e e9.symm), h.2⟩
theorem InO.lt {M : Nat} {W : World} {v : Value} {ob : Option Nat} {L : List Int} (h : InO M W v ob L) (g : Nat) (e : ob = some g) : g < W.heap.size := by subst e; exact h.1.lt
/-- the row of leases grown, or another one -/
theorem RDk.setL {M : Nat} {W W3 W' : World} {g : Nat} {tk rho el now : Int} {vl vl' vt : Value} {ol ol' oc ot : Option Nat} {Ls Ls' Ts : List Int} (h : RDk M W g tk rho el now vl vt ol ot Ls Ts) (hi : InO M W3 vl' ol' Ls') (hg : W.grownBy W3 oc) (hlo : Below M W W3)
    (ho : oc = none ∨ oc = ol) (hn : ol' = none ∨ ol' = ol ∨ ∃ x, ol' = some x ∧ ∀ y, ot = some y → x ≠ y) (hW : W' = W3.setCell ⟨g, 4, none⟩ vl') (hM : M ≤ W.heap.size) : RDk M W' g tk rho el now vl' vt ol' ot Ls' Ts ∧ BT M W W' := by
  have hb3 : Blk W3 g #[.int .i64 tk, .int .i64 rho, .int .i64 el, .int .i64 now, vl, vt] 75 := (hg.block g h.blk.lt (fun e => by
    rcases ho with rfl | rfl
    · cases e
    · exact h.ls.ne h.blk (by decide) e.symm)).trans h.blk
  have hfr : Fr [g] W3 W' := by rw [hW]; exact (Fr.refl _ _).setCell _ (.inl (by simp)) _
  have ht3 : InO M W3 vt ot Ts := h.ts.grown hg (fun x e => by
    rcases ho with rfl | rfl
    · simp
    · exact fun e2 => h.sep x e2 e)
  refine ⟨⟨by rw [hW]; exact hb3.set 4 _, hi.bty hb3 hfr (by decide), ht3.bty hb3 hfr (by decide), h.ge, fun x e e2 => ?_⟩, hlo.trans (hfr.below (Nat.le_trans hM hlo.size) (by simp; exact h.ge)), (tyF_grown h.ls hg ho).trans (tyF_set hb3 hW)⟩
  rcases hn with rfl | rfl | ⟨y, rfl, hy⟩
  · cases e
  · exact h.sep x e e2
  · obtain rfl := Option.some.inj e
    exact hy _ e2 rfl
/-- the row of times grown, or another one -/
theorem RDk.setT {M : Nat} {W W3 W' : World} {g : Nat} {tk rho el now : Int} {vl vt vt' : Value} {ol oc ot ot' : Option Nat} {Ls Ts Ts' : List Int} (h : RDk M W g tk rho el now vl vt ol ot Ls Ts) (hi : InO M W3 vt' ot' Ts') (hg : W.grownBy W3 oc) (hlo : Below M W W3)
    (ho : oc = none ∨ oc = ot) (hn : ot' = none ∨ ot' = ot ∨ ∃ x, ot' = some x ∧ ∀ y, ol = some y → x ≠ y) (hW : W' = W3.setCell ⟨g, 5, none⟩ vt') (hM : M ≤ W.heap.size) : RDk M W' g tk rho el now vl vt' ol ot' Ls Ts' ∧ BT M W W' := by
  have hb3 : Blk W3 g #[.int .i64 tk, .int .i64 rho, .int .i64 el, .int .i64 now, vl, vt] 75 := (hg.block g h.blk.lt (fun e => by
    rcases ho with rfl | rfl
    · cases e
    · exact h.ts.ne h.blk (by decide) e.symm)).trans h.blk
  have hfr : Fr [g] W3 W' := by rw [hW]; exact (Fr.refl _ _).setCell _ (.inl (by simp)) _
  have ht3 : InO M W3 vl ol Ls := h.ls.grown hg (fun x e => by
    rcases ho with rfl | rfl
    · simp
    · exact fun e2 => h.sep x e e2)
  refine ⟨⟨by rw [hW]; exact hb3.set 5 _, ht3.bty hb3 hfr (by decide), hi.bty hb3 hfr (by decide), h.ge, fun x e e2 => ?_⟩, hlo.trans (hfr.below (Nat.le_trans hM hlo.size) (by simp; exact h.ge)), (tyF_grown h.ts hg ho).trans (tyF_set hb3 hW)⟩
  rcases hn with rfl | rfl | ⟨y, rfl, hy⟩
  · cases e2
  · exact h.sep x e e2
  · obtain rfl := Option.some.inj e2
    exact hy _ e rfl
set_option maxRecDepth 100000 in
set_option maxHeartbeats 8000000 in
theorem rfind_any (x : Int) (M g : Nat) (tk rho el now : Int) (vl vt : Value) (ol ot : Option Nat) (Ls Ts : List Int) (w : World) (h : RDk M w g tk rho el now vl vt ol ot Ls Ts) :
    Calls Try.prog 37 #[.pointer (some ⟨g, 0, none⟩), .int .i64 x] w fun e w' => e = .returned (.int .i64 (fnd x 0 Ls)) ∧ w = w' := by
  obtain ⟨a, n, cap, rfl, HN, m1, m2⟩ := h.ls.v.sh
  obtain ⟨b, tn, tcap, rfl, HT, t1, t2⟩ := h.ts.v.sh
  have HR := Lib.hid h
  obtain ⟨R, hR⟩ : ∃ R, R = fnd x 0 Ls := ⟨_, rfl⟩
  rw [← hR]
  have HRR := Lib.hid hR
  clear h hR
  go_enter Try.func37, Try.ntmps37
  go_wp2_with fail
  go_loopw [5] (fun i wr => ∃ k : Nat, k ≤ n ∧ i = .int .i64 k ∧ fnd x k (Ls.drop k) = R ∧ wr = w) (fun i _ => n - (intOf i).toNat)
  case atStart => exact ⟨0, Nat.zero_le _, rfl, HRR.out.symm, rfl⟩
  case round =>
    obtain ⟨k, hk, rfl, hf, rfl⟩ := hrel
    have HF := Lib.hid hf
    clear hf
    by_cases hlt : k < n
    · obtain ⟨gb, o, y, ea, g1, hy, c0⟩ := HR.out.ls.v.at k hlt
      subst ea
      have hst := HF.out
      rw [fnd_step x hy] at hst
      have HST := Lib.hid hst
      have e4 : wr.cell? ⟨g, 4, none⟩ = some (.slice (some ⟨gb, o, none⟩) n cap) := cell_at HR.out.blk 4
      have ww5 : IntKind.i64.wrap ((k : Int) + 1) = (k : Int) + 1 := IntWalk.i64_in _ (by omega)
      have b9 : ((k : Int) < (n : Int)) = True := eq_true (by omega)
      have bk1 : (k < n) = True := eq_true hlt
      have HLT := Lib.hid hlt
      clear hy hst hlt
      by_cases hyx : y = x
      · have q1 : (y == x) = true := by simp [hyx]
        have hr : R = (k : Int) := by rw [← HST.out, if_pos hyx]
        subst hr
        clear hyx
        go_wp2_with fail
        try rw [Exit.noGoto_ret]
        go_ret
        exact ⟨rfl, rfl⟩
      · have q1 : (y == x) = false := by simp [hyx]
        have hr : fnd x (k + 1) (Ls.drop (k + 1)) = R := by rw [← HST.out, if_neg hyx]
        have HR2 := Lib.hid hr
        clear hyx hr
        go_wp2_with fail
        go_roundw
        case rel => exact ⟨k + 1, by have := HLT.out; omega, by go_num, HR2.out, by first | rfl | trivial⟩
        case measure => (have h8 := HLT.out; first | (simp [intOf]; done) | (simp [intOf]; omega))
    · obtain rfl : k = n := by omega
      have hr : R = -1 := by rw [← HF.out, HN.out, fnd_end]
      subst hr
      have e4 : wr.cell? ⟨g, 4, none⟩ = some (.slice a k cap) := cell_at HR.out.blk 4
      go_wp2_with fail
      try rw [Exit.noGoto_ret]
      go_ret
      exact ⟨rfl, rfl⟩
end Go.Proofs.Ythmjlomlceljkaa
