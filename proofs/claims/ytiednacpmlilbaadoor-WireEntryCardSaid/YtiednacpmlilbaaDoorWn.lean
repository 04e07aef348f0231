/-
  Numbers, one behind the other, by a hand.
-/
import Derived.Test.YtiednacpmlilbaaDoorWh
import Derived.Deep.DeepFit
import Derived.WalkMore
namespace Go.Proofs.YtiednacpmlilbaaDoor
open Go.RowKit
set_option linter.unusedSimpArgs false
set_option linter.unusedVariables false

variable {S : Type}
theorem blk_keep {H : HS S} {A : TypeId → Nat → Nat → Prop} {W W' : World} {q : Nat} {cs : Array Value} {ty : TypeId} (h : Blk W q cs ty) (hp : H.Pr q ty) (hf : FrA H A W W') (hA : ∀ j, ¬ A ty q j) : Blk W' q cs ty := by
  obtain ⟨c1, k1, k2, k3⟩ := hf.blk q cs _ h hp
  have : c1 = cs := by
    apply Array.ext'
    apply List.ext_getElem?
    intro j
    rw [Array.getElem?_toList, Array.getElem?_toList]
    exact k3 j (.inr fun h => hA j h.2)
  rwa [this] at k1
theorem below_frA {H : HS S} {W W' : World} (h : Below W.heap.size W W') (hl : H.lo ≤ W.heap.size) (A : TypeId → Nat → Nat → Prop) : FrA H A W W' :=
  ⟨h.os, h.tape, h.output, h.size, fun q hq => h.block q (by omega), fun q cs ty hb _ => ⟨cs, hb.step h, rfl, fun _ _ => rfl⟩⟩
theorem below_frN {lo : Nat} {W W' : World} (h : Below W.heap.size W W') (hl : lo ≤ W.heap.size) : FrN lo W W' := ⟨h.os, h.tape, h.output, h.size, fun q hq => h.block q (by omega), fun q cs ty hb _ => hb.step h⟩
theorem drew_b (w : World) : Below w.heap.size w w.drew := ⟨rfl, rfl, rfl, Nat.le_refl _, fun _ _ => rfl⟩
theorem HandC.inB {H : HS S} (HC : HandC H) {W W' : World} {s : S} (h : H.In W s) (hB : Below W.heap.size W W') : H.In W' s := HC.fr W W' s h (below_frN hB (HC.lo W s h))
theorem HandC.frB {H : HS S} (HC : HandC H) {W W' : World} {s : S} (h : H.In W s) (hB : Below W.heap.size W W') (A : TypeId → Nat → Nat → Prop) : FrA H A W W' := below_frA hB (HC.lo W s h) A
theorem At.new {H : HS S} (HC : HandC H) {W W' : World} {s : S} (h : H.In W s) {q j : Nat} {ty : TypeId} {cs : Array Value} {v : Value} (hq : W.heap.size ≤ q) (hb : Blk W' q cs ty) (ht : ty ≠ 5) (hv : cs[j]? = some v) : At H W' ty q j v := .inr ⟨cs, hb, HC.new W s q ty h hq ht, ht, hv⟩
/-- a step behind a draw -/
theorem stepC_drew {H : HS S} (HC : HandC H) {f : WF} {k : FuncId} (h : StepC H f k) {W : World} {s : S} {ty : TypeId} {g j : Nat} {d : WD} (hI : H.In W s) (hD : Dp H W f ty g j d) (hP : H.pre f s d) :
    Calls Tryd.prog k #[H.bnd, .pointer (some ⟨g, j, none⟩)] W.drew (EndS H (cell1 ty g j) W (H.step f s d) fun x W' => H.In W' x.1 ∧ Dp H W' f ty g j x.2) :=
  Calls.mono (h W.drew s ty g j d (HC.inB hI (drew_b W)) (hD.fr (HC.frB hI (drew_b W) (fun _ _ _ => False)) id) hP) fun e W' hr =>
    ⟨(HC.frB hI (drew_b W) (fun _ _ _ => False)).trans hr.1 (fun _ _ _ h => h.elim) (fun _ _ _ h => h), hr.2⟩
def nmW (n : Nat) : List WF := List.replicate n .num
def DpN (H : HS S) (W : World) (ts : List (TypeId × Nat × Nat)) (ds : List WD) : Prop := ds.length = ts.length ∧ ∀ (i : Nat) t d, ts[i]? = some t → ds[i]? = some d → Dp H W .num t.1 t.2.1 t.2.2 d
theorem DpN.fr {H : HS S} {A : TypeId → Nat → Nat → Prop} {W W' : World} {ts : List (TypeId × Nat × Nat)} {ds : List WD} (h : DpN H W ts ds) (hf : FrA H A W W') (hA : ∀ t ∈ ts, ¬ A t.1 t.2.1 t.2.2) : DpN H W' ts ds :=
  ⟨h.1, fun i t d ht hd => (h.2 i t d ht hd).fr hf (hA t (List.mem_of_getElem? ht))⟩
theorem drop_at {α : Type} {l : List α} {i : Nat} {x : α} (h : l[i]? = some x) : l.drop i = x :: l.drop (i + 1) := by
  obtain ⟨h1, h2⟩ := List.getElem?_eq_some_iff.1 h
  rw [List.drop_eq_getElem_cons h1, h2]
def NumsC (H : HS S) : Prop := ∀ (W : World) (s : S) (ts : List (TypeId × Nat × Nat)) (ds : List WD) (b n : Nat), H.In W s → n = ts.length → n ≤ 100 → DpN H W ts ds → ts.Nodup → (∀ t ∈ ts, t.1 ≠ 85 ∧ t.1 ≠ 150) →
  (∀ (i : Nat) t, ts[i]? = some t → At H W 150 b i (.pointer (some ⟨t.2.1, t.2.2, none⟩))) → PreFs H (nmW n) s ds →
  Calls Tryd.prog 93 #[H.hv, .slice (some ⟨b, 0, none⟩) n n] W (EndS H (fun t q j => (t, q, j) ∈ ts) W (runFs H (nmW n) s ds) fun x W' => H.In W' x.1 ∧ DpN H W' ts x.2)
set_option maxRecDepth 100000 in
set_option maxHeartbeats 8000000 in
theorem numbers_any {H : HS S} (HC : HandC H) : NumsC H := by
  intro W s ts ds b n hI hn hn1 hD hN hT hP hPre
  obtain ⟨B0, hB0⟩ : ∃ n, n = W.heap.size := ⟨_, rfl⟩
  have hE := HC.e0
  unfold EntK at hE
  have HH := Lib.hid HC
  obtain ⟨A, hA⟩ : ∃ A : TypeId → Nat → Nat → Prop, A = fun t q j => (t, q, j) ∈ ts := ⟨_, rfl⟩
  rw [← hA]
  unfold HS.hv fv
  go_enter Tryd.func93, Tryd.ntmps93
  go_upto_region 1 with fail
  rw [← hB0]
  obtain ⟨W1, hW1⟩ : ∃ W1, W1 = W.alloc (.cells #[.func (.func H.k0) #[H.bnd] #[], .func (.func H.k1) #[H.bnd] #[], .func (.func H.k2) #[H.bnd] #[], .func (.func H.k3) #[H.bnd] #[], .func (.func H.k4) #[H.bnd] #[], .func (.func H.k5) #[H.bnd] #[]] 85) := ⟨_, rfl⟩
  rw [← hW1]
  have hbel : Below W.heap.size W W1 := by rw [hW1]; exact alloc_b _ _
  have hbk : Blk W1 B0 H.cs 85 := by rw [hW1, hB0]; exact blk_new _ _ _
  have hpr := HC.new W s B0 85 hI (by omega) (by decide)
  have hF0 := HC.frB hI hbel (fun _ _ _ => False)
  have hI1 := HC.inB hI hbel
  have hD1 := hD.fr hF0 (fun _ _ h => h)
  have hP1 : ∀ (i : Nat) t, ts[i]? = some t → At H W1 150 b i (.pointer (some ⟨t.2.1, t.2.2, none⟩)) := fun i t ht => (hP i t ht).fr hF0 id
  have hF1 : FrA H A W W1 := HC.frB hI hbel A
  have HX := Lib.hid (And.intro hn (And.intro hN hT))
  have HD := Lib.hid hD1
  have HI := Lib.hid hI1
  have HBK := Lib.hid hbk
  have HPR := Lib.hid hpr
  have HPT := Lib.hid hP1
  have HF := Lib.hid hF1
  have HPP := Lib.hid hPre
  have HAA := Lib.hid hA
  have HDL := Lib.hid hD.1
  clear hW1 hB0 hbel hbk hpr hF0 hI1 hD1 hP1 hF1 hn hN hT hD hI hP hPre hA
  go_upto_region 2 with fail
  go_loopw [5, 8] (fun o k wr => ∃ (i : Nat) (s1 : S) (d1 : List WD), i ≤ n ∧ k = .int .i64 i ∧ H.In wr s1 ∧ DpN H wr ts d1 ∧ Blk wr B0 H.cs 85 ∧ (∀ (i : Nat) t, ts[i]? = some t → At H wr 150 b i (.pointer (some ⟨t.2.1, t.2.2, none⟩))) ∧ FrA H A W wr ∧ PreFs H (nmW (n - i)) s1 (d1.drop i) ∧ runFs H (nmW n) s ds = (match runFs H (nmW (n - i)) s1 (d1.drop i) with | .error a => .error a | .ok (s2, l) => .ok (s2, d1.take i ++ l))) (fun _ k _ => n - (intOf k).toNat)
  case atStart =>
    refine ⟨0, s, ds, Nat.zero_le _, rfl, HI.out, HD.out, HBK.out, HPT.out, HF.out, HPP.out, ?_⟩
    show runFs H (nmW n) s ds = (match runFs H (nmW n) s ds with | .error a => .error a | .ok (s2, l) => .ok (s2, l))
    cases runFs H (nmW n) s ds <;> rfl
  case round =>
    obtain ⟨i, s1, d1, hi, rfl, hI, hD, hbk, hpt, hF, hpp, hrun⟩ := hrel
    replace HD := Lib.hid hD
    replace HI := Lib.hid hI
    replace HBK := Lib.hid hbk
    replace HPT := Lib.hid hpt
    replace HF := Lib.hid hF
    replace HPP := Lib.hid hpp
    have HRUN := Lib.hid hrun
    clear hD hI hbk hpt hF hpp hrun
    by_cases hlt : i < n
    · skip
      obtain ⟨t, ht⟩ : ∃ t, ts[i]? = some t := ⟨_, List.getElem?_eq_getElem (by rw [← HX.out.1]; exact hlt)⟩
      obtain ⟨d, hd⟩ : ∃ d, d1[i]? = some d := ⟨_, List.getElem?_eq_getElem (by rw [HD.out.1, ← HX.out.1]; exact hlt)⟩
      have hsp : nmW (n - i) = .num :: nmW (n - (i + 1)) := by
        rw [show n - i = (n - (i + 1)) + 1 by omega]; rfl
      have hdr := drop_at hd
      have hpp := HPP.out
      have hrun := HRUN.out
      rw [hsp, hdr] at hpp hrun
      have HC1 := Lib.hid (HH.out.num wr s1 t.1 t.2.1 t.2.2 d HI.out (HD.out.2 i t d ht hd) hpp.1)
      have b9 : (i < n) = True := eq_true hlt
      have ww5 : IntKind.i64.wrap ((i : Int) + 1) = (i : Int) + 1 := IntWalk.i64_in _ (by omega)
      have q9 : wr.cell? ⟨b, i, none⟩ = some (.pointer (some ⟨t.2.1, t.2.2, none⟩)) := (HPT.out i t ht).cell
      have q0 : wr.cell? ⟨B0, 0, none⟩ = some (.func (.func H.k0) #[H.bnd] #[]) := cell_at HBK.out 0
      have HT9 := Lib.hid (And.intro ht hd)
      have HRN := Lib.hid hrun
      have HPN := Lib.hid hpp.2
      have HSD := Lib.hid (And.intro hsp hdr)
      clear ht hd hsp hdr hpp hrun
      obtain ⟨t1, t2, t3⟩ := t
      dsimp only at q9 HC1
      have hNA : ∀ (k : Nat) t', ts[k]? = some t' → k ≠ i → ¬ cell1 t1 t2 t3 t'.1 t'.2.1 t'.2.2 := fun k t' hk hne he => by
        obtain ⟨e1, e2, e3⟩ := he
        have : t' = (t1, t2, t3) := by obtain ⟨a, b, c⟩ := t'; simp only at e1 e2 e3; rw [e1, e2, e3]
        subst this
        exact hne ((List.getElem?_inj (List.getElem?_eq_some_iff.1 hk).1 HX.out.2.1).1 (hk.trans HT9.out.1.symm))
      have hsub : ∀ t q j, cell1 t1 t2 t3 t q j → A t q j := fun t q j h => by
        rw [HAA.out]
        obtain ⟨rfl, rfl, rfl⟩ := h
        exact List.mem_of_getElem? HT9.out.1
      have HNA := Lib.hid hNA
      have HSUB := Lib.hid hsub
      have hC1 := HC1.out
      clear hNA hsub HC1
      rcases hst : H.step .num s1 d with a | ⟨s2, d2⟩
      · rw [hst] at hC1
        have HC1 := Lib.hid hC1
        have HST := Lib.hid hst
        clear hC1 hst
        go_upto_region 5 with (refine Calls.mono HC1.out ?_; rintro e W2 ⟨hF2, rfl⟩)
        refine (show _ ∧ EndS H A W _ _ _ _ from ⟨rfl, HF.out.trans hF2 (fun _ _ _ h => h) HSUB.out, ?_⟩)
        have := HRN.out
        rw [runFs_err H HST.out] at this
        rw [this]
      · rw [hst] at hC1
        have HC1 := Lib.hid hC1
        have HST := Lib.hid hst
        clear hC1 hst
        go_upto_region 5 with (refine Calls.mono HC1.out ?_; rintro e W2 ⟨hF2, rfl, hI2, hD2⟩)
        have hFF := HF.out.trans hF2 (fun _ _ _ h => h) HSUB.out
        have hne := HX.out.2.2 _ (List.mem_of_getElem? HT9.out.1)
        have HI2 := Lib.hid hI2
        have HD2 := Lib.hid hD2
        have HF2 := Lib.hid hF2
        have HFF := Lib.hid hFF
        have HBK2 := Lib.hid (blk_keep HBK.out HPR.out hF2 (fun j h => hne.1 h.1.symm))
        have HPT2 := Lib.hid (fun (i : Nat) t (ht : ts[i]? = some t) => (HPT.out i t ht).fr hF2 (fun h => hne.2 h.1.symm))
        clear hI2 hD2 hF2 hFF hne
        go_wp2_with fail
        go_roundw
        case measure => first | (simp [intOf]; done) | (simp [intOf]; omega)
        case rel =>
          have hd := HT9.out.2
          have hil := (List.getElem?_eq_some_iff.1 hd).1
          refine ⟨i + 1, s2, d1.set i d2, by omega, by go_num, HI2.out, ⟨by rw [List.length_set]; exact HD.out.1, fun k t' d' hk hk' => ?_⟩, HBK2.out, HPT2.out, HFF.out, ?_, ?_⟩
          · by_cases hki : k = i
            · subst hki
              rw [List.getElem?_set_self hil] at hk'
              obtain rfl := Option.some.inj hk'
              obtain rfl := Option.some.inj (hk.symm.trans HT9.out.1)
              exact HD2.out
            · rw [List.getElem?_set_ne (Ne.symm hki)] at hk'
              exact (HD.out.2 k t' d' hk hk').fr HF2.out (HNA.out k t' hk hki)
          · rw [List.drop_set_of_lt (by omega)]
            exact HPN.out _ _ HST.out
          · have h1 := HRN.out
            rw [runFs_ok H HST.out] at h1
            rw [h1, List.drop_set_of_lt (by omega)]
            have h2 : (d1.set i d2).take (i + 1) = d1.take i ++ [d2] := by
              rw [List.take_set, List.take_add_one, hd]
              have h3 : (d1.take i).length = i := by rw [List.length_take]; omega
              rw [List.set_append_right _ _ (by omega), h3, Nat.sub_self]
              rfl
            rw [h2]
            rcases hq : runFs H (nmW (n - (i + 1))) s2 (d1.drop (i + 1)) with a | ⟨s3, l⟩ <;> simp [hq]
    · skip
      obtain rfl : i = n := by omega
      have b9 : (i < i) = False := eq_false (by omega)
      have h1 := HRUN.out
      rw [Nat.sub_self] at h1
      have h2 : d1.take i = d1 := List.take_of_length_le (by rw [HD.out.1, ← HX.out.1]; exact Nat.le_refl _)
      have h3 : runFs H (nmW i) s ds = .ok (s1, d1) := by
        rw [h1, h2]
        show Except.ok (s1, d1 ++ []) = _
        rw [List.append_nil]
      have HR3 := Lib.hid h3
      clear h1 h2 h3
      go_wp2_with fail
      go_end0
      refine ⟨HF.out, ?_⟩
      rw [HR3.out]
      exact ⟨rfl, HI.out, HD.out⟩
end Go.Proofs.YtiednacpmlilbaaDoor
