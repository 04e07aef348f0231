/-
  Leases gone: the document.
-/
import Derived.Test.YthmjlomlceljkaaGp2
import Derived.Deep.DeepFit
import Derived.Lib.AppendZeros
import Derived.Deep.RegionLaw
import Derived.Deep.RegionWith
import Derived.Lib.EndianBits
import Derived.Deep.MidRow
namespace Go.Proofs.Ythmjlomlceljkaa
open Go.RowKit
set_option linter.unusedSimpArgs false
set_option linter.unusedVariables false

/-- a row without place k, up to n -/
def wo (k : Nat) (L : List Int) (n : Nat) : List Int := ((List.range n).filter fun j => decide (j ≠ k)).map fun j => gI L j
theorem wo_zero (k : Nat) (L : List Int) : wo k L 0 = [] := rfl
theorem wo_succ (k : Nat) (L : List Int) (n : Nat) : wo k L (n + 1) = if n = k then wo k L n else wo k L n ++ [gI L n] := by
  unfold wo
  rw [List.range_succ, List.filter_append, List.map_append]
  by_cases h : n = k
  · simp [h]
  · simp [h]
theorem wo_len (k : Nat) (L L' : List Int) (n : Nat) : (wo k L n).length = (wo k L' n).length := by simp [wo]
theorem wo_le (k : Nat) (L : List Int) (n : Nat) : (wo k L n).length ≤ n := by
  unfold wo
  rw [List.length_map]
  have := List.length_filter_le (fun j => decide (j ≠ k)) (List.range n)
  rwa [List.length_range] at this
def gnS (x : Int) (p : List Int × List Int) : List Int × List Int := if fnd x 0 p.1 < 0 then p else (wo (fnd x 0 p.1).toNat p.1 p.1.length, wo (fnd x 0 p.1).toNat p.2 p.1.length)
def gnL : List Int → List Int × List Int → List Int × List Int
  | [], p => p
  | x :: l, p => gnL l (gnS x p)
theorem gn_step {X : List Int} {k : Nat} {x : Int} (p : List Int × List Int) (h : X[k]? = some x) : gnL (X.drop k) p = gnL (X.drop (k + 1)) (gnS x p) := by
  have hk := (List.getElem?_eq_some_iff.1 h).1
  rw [List.drop_eq_getElem_cons hk]
  rw [List.getElem?_eq_getElem hk] at h
  obtain rfl := Option.some.inj h
  rfl
theorem gns_len {x : Int} {p : List Int × List Int} (h : p.1.length = p.2.length) : (gnS x p).1.length = (gnS x p).2.length := by
  unfold gnS
  split
  · exact h
  · exact wo_len _ _ _ _
theorem gns_le {x : Int} {p : List Int × List Int} {n : Nat} (h : p.1.length ≤ n) : (gnS x p).1.length ≤ n := by
  unfold gnS
  split
  · exact h
  · exact Nat.le_trans (wo_le _ _ _) h
theorem grownBy_refl (w : World) (o : Option Nat) : w.grownBy w o := ⟨rfl, rfl, rfl, Nat.le_refl _, fun _ _ _ => rfl⟩
theorem fnd_lt (x : Int) : ∀ (L : List Int) (k : Nat), fnd x k L = -1 ∨ ((k : Int) ≤ fnd x k L ∧ fnd x k L < (k : Int) + (L.length : Int))
  | [], k => .inl rfl
  | y :: l, k => by
    unfold fnd
    by_cases h : y = x
    · rw [if_pos h, List.length_cons]; exact .inr ⟨by omega, by omega⟩
    · rw [if_neg h, List.length_cons]
      rcases fnd_lt x l (k + 1) with h | h
      · exact .inl h
      · exact .inr ⟨by omega, by omega⟩
set_option maxRecDepth 100000 in
set_option maxHeartbeats 24000000 in
theorem rgone_any (w0 : World) (va : Value) (Xs : List Int) (hv : InV w0 va Xs) (g : Nat) (tk rho el now : Int) (vl vt : Value) (ol ot : Option Nat) (Ls Ts : List Int) (w : World) (hw : Below w0.heap.size w0 w) (h : RDk w0.heap.size w g tk rho el now vl vt ol ot Ls Ts) (h1 : Ls.length ≤ 100000) (h2 : Ls.length = Ts.length) :
    Calls Try.prog 16 #[.pointer (some ⟨g, 0, none⟩), va] w fun e w' => e = .returned (.int .i64 0) ∧ BT w0.heap.size w w' ∧ ∃ vl' vt' ol' ot', RDk w0.heap.size w' g tk rho el now vl' vt' ol' ot' (gnL Xs (Ls, Ts)).1 (gnL Xs (Ls, Ts)).2 := by
  obtain ⟨xa, xn, xc, rfl, HXN, x1, x2⟩ := hv.sh
  have HV := Lib.hid hv
  have HW := Lib.hid hw
  have HR := Lib.hid h
  have H1 := Lib.hid h1
  have H2 := Lib.hid h2
  obtain ⟨G, hG⟩ : ∃ G, G = gnL Xs (Ls, Ts) := ⟨_, rfl⟩
  rw [← hG]
  have HG := Lib.hid hG
  clear hv hw h h1 h2 hG
  go_enter Try.func16, Try.ntmps16
  go_wp2_with fail
  go_loopw [5, 6, 7, 8, 9] (fun i _ _ _ _ wr => ∃ (k : Nat) (vl vt : Value) (ol ot : Option Nat) (Ls Ts : List Int), k ≤ xn ∧ i = .int .i64 k ∧ RDk w0.heap.size wr g tk rho el now vl vt ol ot Ls Ts ∧ gnL (Xs.drop k) (Ls, Ts) = G ∧ Ls.length = Ts.length ∧ Ls.length ≤ 100000 ∧ BT w0.heap.size w wr) (fun i _ _ _ _ _ => xn - (intOf i).toNat)
  case atStart => exact ⟨0, _, _, _, _, Ls, Ts, Nat.zero_le _, rfl, HR.out, HG.out.symm, H2.out, H1.out, BT.refl _ _⟩
  case round =>
    clear HR HG H1 H2
    obtain ⟨k, vl, vt, ol, ot, Ls, Ts, hk, rfl, hR, hG, h2, h1, hB⟩ := hrel
    have HR := Lib.hid hR
    have HG := Lib.hid hG
    have H1 := Lib.hid h1
    have H2 := Lib.hid h2
    have HB := Lib.hid hB
    obtain ⟨a, n, cap, rfl, HN, m1, m2⟩ := hR.ls.v.sh
    obtain ⟨b, tn, tcap, rfl, HT, t1, t2⟩ := hR.ts.v.sh
    have hnt : tn = n := by rw [HT.out, ← h2, HN.out]
    subst hnt
    clear hR hG h1 h2 hB
    by_cases hlt : k < xn
    rotate_left
    · obtain rfl : k = xn := by omega
      have hE : (Ls, Ts) = G := by rw [← HG.out, HXN.out, List.drop_length]; rfl
      have HEE := Lib.hid hE
      clear hE
      go_wp2_with fail
      try rw [Exit.noGoto_ret]
      go_ret
      exact ⟨rfl, HB.out, _, _, _, _, by rw [← HEE.out]; exact HR.out⟩
    obtain ⟨gx, ox, x, ea, g1, hx, c0⟩ := (HV.out.below (HW.out.trans HB.out.b)).at k hlt
    subst ea
    have hst := HG.out
    rw [gn_step _ hx] at hst
    have HST := Lib.hid hst
    have HF := Lib.hid (fun W (h : RDk w0.heap.size W g tk rho el now (.slice a tn cap) (.slice b tn tcap) ol ot Ls Ts) => rfind_any x w0.heap.size g tk rho el now _ _ ol ot Ls Ts W h)
    obtain ⟨R, hR⟩ : ∃ R, R = fnd x 0 Ls := ⟨_, rfl⟩
    have hRl := fnd_lt x Ls 0
    rw [← hR] at HF hRl
    have HRR := Lib.hid hR
    have HRL := Lib.hid hRl
    have ww5 : IntKind.i64.wrap ((k : Int) + 1) = (k : Int) + 1 := IntWalk.i64_in _ (by omega)
    have b9 : ((k : Int) < (xn : Int)) = True := eq_true (by omega)
    have bk1 : (k < xn) = True := eq_true hlt
    have HLT := Lib.hid hlt
    clear hx hst hR hRl hlt HG
    go_wp2_with fail
    go_at_call 37
    go_fit (HF.out wr HR.out)
    rintro e W2 ⟨rfl, rfl⟩
    by_cases c3 : R < 0
    · have d3 : decide (R < 0) = true := decide_eq_true c3
      have hgn : gnS x (Ls, Ts) = (Ls, Ts) := by unfold gnS; rw [if_pos (by rw [← HRR.out]; exact c3)]
      have HGN : Hid (gnL (Xs.drop (k + 1)) (Ls, Ts) = G) := Lib.hid (by rw [← HST.out, hgn])
      clear hgn c3
      go_wp2_with fail
      go_roundw
      case rel => exact ⟨k + 1, _, _, _, _, Ls, Ts, by have := HLT.out; omega, by go_num, HR.out, HGN.out, H2.out, H1.out, HB.out⟩
      case measure => (have h8 := HLT.out; first | (simp [intOf]; done) | (simp [intOf]; omega))
    have d3 : decide (R < 0) = false := decide_eq_false c3
    obtain ⟨q, rfl⟩ : ∃ q : Nat, R = q := ⟨R.toNat, by omega⟩
    have hqn : q < tn := by have := HRL.out; have := HN.out; omega
    have hq12 : tn ≤ 100000 := by have := H1.out; have := HN.out; omega
    have hgn : gnS x (Ls, Ts) = (wo q Ls tn, wo q Ts tn) := by
      unfold gnS
      rw [if_neg (by rw [← HRR.out]; exact c3), ← HRR.out]
      simp only [Int.toNat_natCast]
      rw [← HN.out]
    have HGN : Hid (gnL (Xs.drop (k + 1)) (wo q Ls tn, wo q Ts tn) = G) := Lib.hid (by rw [← HST.out, hgn])
    clear hgn c3 HST HRL
    obtain ⟨W1, hW1⟩ : ∃ X, X = wr := ⟨_, rfl⟩
    have HMB : Hid (Below W1.heap.size W1 wr) := Lib.hid (by rw [hW1]; exact Below.refl _ _)
    have HR1 : Hid (RDk w0.heap.size W1 g tk rho el now (.slice a tn cap) (.slice b tn tcap) ol ot Ls Ts) := Lib.hid (by rw [hW1]; exact HR.out)
    have HB1 : Hid (BT w0.heap.size w W1) := Lib.hid (by rw [hW1]; exact HB.out)
    clear hW1 HR HB c0
    go_wp2_with fail
    go_loopw [7, 8, 9] (fun vx vy i wq => ∃ (j : Nat) (ox oy : Option Nat), j ≤ tn ∧ i = .int .i64 j ∧ InO W1.heap.size wq vx ox (wo q Ls j) ∧ InO W1.heap.size wq vy oy (wo q Ts j) ∧ (∀ z, ox = some z → oy ≠ some z) ∧ Below W1.heap.size W1 wq) (fun _ _ i _ => tn - (intOf i).toNat)
    case atStart => exact ⟨0, none, none, Nat.zero_le _, rfl, ino_nil _ _, ino_nil _ _, (fun z e => by cases e), HMB.out⟩
    case round =>
      clear HMB
      obtain ⟨j, ox, oy, hj, rfl, hX, hY, hs, hB⟩ := hrel
      obtain ⟨xa2, xn2, xc2, rfl, HX2, x21, x22⟩ := hX.v.sh
      obtain ⟨ya2, yn2, yc2, rfl, HY2, y21, y22⟩ := hY.v.sh
      have HX := Lib.hid hX
      have HY := Lib.hid hY
      have HS := Lib.hid hs
      have HMB := Lib.hid hB
      have HR := Lib.hid (HR1.out.step hB)
      have HXL := Lib.hid (wo_le q Ls j)
      have HYL := Lib.hid (wo_le q Ts j)
      clear hX hY hs hB
      have f4 : wr.cell? ⟨g, 4, none⟩ = some (.slice a tn cap) := cell_at HR.out.blk 4
      by_cases hlj : j < tn
      rotate_left
      · obtain rfl : j = tn := by omega
        have f5 : wr.cell? ⟨g, 5, none⟩ = some (.slice b j tcap) := cell_at HR.out.blk 5
        have fz : ∀ j, wr.frozen? ⟨g, j, none⟩ = false := fun j => free_at HR.out.blk j
        have fl : g < wr.heap.size := HR.out.blk.lt
        have hM1 : w0.heap.size ≤ W1.heap.size := by have := HR1.out.blk.lt; have := HR1.out.ge; omega
        have hM : w0.heap.size ≤ wr.heap.size := Nat.le_trans hM1 HMB.out.size
        have HMM := Lib.hid hM
        obtain ⟨hR4, hB4⟩ := HR.out.setL (W3 := wr) (oc := none) (vl' := .slice xa2 xn2 xc2) (ol' := ox) (Ls' := wo q Ls j) ⟨HX.out.1, HX.out.2.1, fun z e => Nat.le_trans hM1 (HX.out.2.2 z e)⟩ (grownBy_refl _ _) (Below.refl _ _) (.inl rfl) (by
          cases ox with
          | none => exact .inl rfl
          | some z => exact .inr (.inr ⟨z, rfl, fun y hy e => by have h1 := HX.out.2.2 z rfl; have h2 := HR1.out.ts.lt y hy; omega⟩)) rfl hM
        obtain ⟨W4, hW4⟩ : ∃ X, X = wr.setCell ⟨g, 4, none⟩ (.slice xa2 xn2 xc2) := ⟨_, rfl⟩
        rw [← hW4] at hR4 hB4
        have hfr : Fr [g] wr W4 := by rw [hW4]; exact (Fr.refl _ _).setCell _ (.inl (by simp)) _
        have hY4 := HY.out.bty HR.out.blk hfr (by decide)
        obtain ⟨hR5, hB5⟩ := hR4.setT (W3 := W4) (oc := none) (vt' := .slice ya2 yn2 yc2) (ot' := oy) (Ts' := wo q Ts j) ⟨hY4.1, hY4.2.1, fun z e => Nat.le_trans hM1 (hY4.2.2 z e)⟩ (grownBy_refl _ _) (Below.refl _ _) (.inl rfl) (by
          cases oy with
          | none => exact .inl rfl
          | some z => exact .inr (.inr ⟨z, rfl, fun y hy e => HS.out y hy (by rw [e])⟩)) rfl (Nat.le_trans hM hB4.size)
        have HR4 := Lib.hid hR4
        have HR5 := Lib.hid hR5
        have HB5 := Lib.hid (((HB1.out.trans (bt_new HMB.out hM1)).trans hB4).trans hB5)
        have g5 : W4.cell? ⟨g, 5, none⟩ = some (.slice b j tcap) := cell_at hR4.blk 5
        have gz : ∀ j, W4.frozen? ⟨g, j, none⟩ = false := fun j => free_at hR4.blk j
        have gl : g < W4.heap.size := hR4.blk.lt
        clear hM1 hM hR4 hB4 hfr hY4 hR5 hB5
        go_upto_region 14 with fail
        rw [← hW4]
        clear hW4
        go_wp2_with fail
        go_roundw
        case rel => exact ⟨k + 1, _, _, _, _, wo q Ls j, wo q Ts j, by have := HLT.out; omega, by go_num, HR5.out, HGN.out, wo_len _ _ _ _, by have := HXL.out; omega, HB5.out⟩
        case measure => (have h8 := HLT.out; first | (simp [intOf]; done) | (simp [intOf]; omega))
      have wj5 : IntKind.i64.wrap ((j : Int) + 1) = (j : Int) + 1 := IntWalk.i64_in _ (by omega)
      have bj9 : ((j : Int) < (tn : Int)) = True := eq_true (by omega)
      have bj1 : (j < tn) = True := eq_true hlj
      have HLJ := Lib.hid hlj
      by_cases hjq : j = q
      · have e1 : ((j : Int) != (q : Int)) = false := by simp; omega
        have HXS : Hid (wo q Ls (j + 1) = wo q Ls j ∧ wo q Ts (j + 1) = wo q Ts j) := Lib.hid ⟨by rw [wo_succ, if_pos hjq], by rw [wo_succ, if_pos hjq]⟩
        clear hjq hlj
        go_wp2_with fail
        go_roundw
        case rel => exact ⟨j + 1, ox, oy, by have := HLJ.out; omega, by go_num, by rw [HXS.out.1]; exact HX.out, by rw [HXS.out.2]; exact HY.out, HS.out, HMB.out⟩
        case measure => (have h8 := HLJ.out; first | (simp [intOf]; done) | (simp [intOf]; omega))
      have e1 : ((j : Int) != (q : Int)) = true := by simp; omega
      obtain ⟨ga, oa, y, ea, _, hy, c0⟩ := HR.out.ls.v.at j hlj
      obtain ⟨gb, ob, z, eb, _, hz, c1⟩ := HR.out.ts.v.at j hlj
      subst ea
      subst eb
      have HYO := Lib.hid (HR.out.ls.2.1 y (List.mem_of_getElem? hy))
      have HZO := Lib.hid (HR.out.ts.2.1 z (List.mem_of_getElem? hz))
      have HXS : Hid (wo q Ls (j + 1) = wo q Ls j ++ [y] ∧ wo q Ts (j + 1) = wo q Ts j ++ [z]) := Lib.hid ⟨by rw [wo_succ, if_neg hjq]; unfold gI; rw [hy]; rfl, by rw [wo_succ, if_neg hjq]; unfold gI; rw [hz]; rfl⟩
      have HZZ := Lib.hid hz
      clear hjq hlj hy hz
      have hM2 : W1.heap.size ≤ wr.heap.size := HMB.out.size
      have hB2 : Below wr.heap.size wr (wr.alloc (.cells #[.int .i64 y] 3)) := (Below.refl _ _).alloc (Nat.le_refl _) _
      obtain ⟨v3, o3, W3, hrun, hio, hgr, hnw, hlo⟩ := in_grow (M := W1.heap.size) (ty := 33) (HX.out.step hB2) (blk_new wr #[.int .i64 y] 3) HYO.out (Nat.le_trans hM2 hB2.size) (by have := HXL.out; omega)
      obtain ⟨a3, n3, k3, rfl, H3, q31, q32⟩ := hio.v.sh
      have hMB3 := HMB.out.trans ((hB2.mono hM2).trans hlo)
      have hR3 := HR1.out.step hMB3
      have hY3 := (HY.out.step hB2).grown hgr (fun z e e2 => HS.out z e2 e)
      have hS3 : ∀ z, some o3 = some z → oy ≠ some z := fun z e e2 => by
        obtain rfl := Option.some.inj e
        rcases hnw with h | h
        · exact HS.out _ h e2
        · have h3 := (HY.out.step hB2).lt _ e2
          omega
      obtain ⟨gb', ob', z', eb', _, hz', d1⟩ := hR3.ts.v.at j HLJ.out
      obtain ⟨rfl, rfl⟩ : gb = gb' ∧ ob = ob' := by injection eb' with e; injection e with e1 e2; exact ⟨e1, e2⟩
      obtain rfl : z = z' := Option.some.inj (HZZ.out.symm.trans hz')
      have g5 : W3.cell? ⟨g, 5, none⟩ = some (.slice (some ⟨gb, ob, none⟩) tn tcap) := cell_at hR3.blk 5
      have hB5 : Below W3.heap.size W3 (W3.alloc (.cells #[.int .i64 z] 3)) := (Below.refl _ _).alloc (Nat.le_refl _) _
      have hM5 : W1.heap.size ≤ W3.heap.size := hMB3.size
      obtain ⟨v5, o5, W5, hrun5, hio5, hgr5, hnw5, hlo5⟩ := in_grow (M := W1.heap.size) (ty := 33) (hY3.step hB5) (blk_new W3 #[.int .i64 z] 3) HZO.out (Nat.le_trans hM5 hB5.size) (by have := HYL.out; omega)
      obtain ⟨a5, n5, k5, rfl, H5, q51, q52⟩ := hio5.v.sh
      have HX5 := Lib.hid ((hio.step hB5).grown hgr5 (fun z e e2 => hS3 z e e2))
      have HMB5 := Lib.hid (hMB3.trans ((hB5.mono hM5).trans hlo5))
      have HS5 : Hid (∀ z, some o3 = some z → some o5 ≠ some z) := Lib.hid (fun z e e2 => by
        obtain rfl := Option.some.inj e
        obtain rfl := Option.some.inj e2
        rcases hnw5 with h | h
        · exact hS3 _ rfl h
        · have h3 := (hio.step hB5).lt _ rfl
          omega)
      have HY5 := Lib.hid hio5
      have HRUN := Lib.hid hrun
      have HRUN5 := Lib.hid hrun5
      clear hM2 hB2 hrun hio hgr hnw hlo hMB3 hR3 hY3 hS3 eb' hz' hB5 hM5 hrun5 hio5 hgr5 hnw5 hlo5
      go_wp2_with (at_builtin; first | (refine Lib.wpList_append_run _ rfl (.tmp 36) (.tmp 44) 33 33 rfl _ _ rfl rfl _ _ HRUN.out ?_) | (refine Lib.wpList_append_run _ rfl (.tmp 46) (.tmp 54) 33 33 rfl _ _ rfl rfl _ _ HRUN5.out ?_))
      go_roundw
      case rel => exact ⟨j + 1, some o3, some o5, by have := HLJ.out; omega, by go_num, by rw [HXS.out.1]; exact HX5.out, by rw [HXS.out.2]; exact HY5.out, HS5.out, HMB5.out⟩
      case measure => (have h8 := HLJ.out; first | (simp [intOf]; done) | (simp [intOf]; omega))
end Go.Proofs.Ythmjlomlceljkaa
