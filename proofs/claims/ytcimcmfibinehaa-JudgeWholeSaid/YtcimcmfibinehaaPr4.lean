/-
  Is what went out what came in? The document's own answer.
-/
import Derived.Test.YtcimcmfibinehaaPr3
import Derived.Test.YtcimcmfibinehaaJdd
namespace Go.Proofs.Ytcimcmfibinehaa
open Go.RowKit
set_option linter.unusedSimpArgs false
set_option linter.unusedVariables false

theorem dN9 (w : World) (n : Nat) : Below w.heap.size w (w.drewN n) := ⟨rfl, rfl, rfl, Nat.le_refl _, fun _ _ => rfl⟩
structure BsE where
  a : Option Addr
  n : Nat
  c : Nat
  b : Nat
  o : Nat
  X : Nat → Nat
structure BsIn (W : World) (a : Option Addr) (len cap b o : Nat) (H : Nat → BsE) : Prop where
  le : len ≤ cap
  max : cap ≤ maxLen
  at_ : 0 < len → a = some ⟨b, o, none⟩ ∧ b < W.heap.size
  cell : ∀ k, k < len → W.cell? ⟨b, o + k, none⟩ = some (.slice (H k).a (H k).n (H k).c)
  by_ : ∀ k, k < len → ByIn W (H k).a (H k).n (H k).c (H k).b (H k).o (H k).X
theorem BsIn.below {W W' : World} {a : Option Addr} {len cap b o : Nat} {H : Nat → BsE} (h : BsIn W a len cap b o H) (hB : Below W.heap.size W W') : BsIn W' a len cap b o H :=
  ⟨h.le, h.max, fun hk => ⟨(h.at_ hk).1, by have := (h.at_ hk).2; have := hB.size; omega⟩, fun k hk => (hB.cell (p := ⟨b, _, none⟩) (h.at_ (by omega)).2).trans (h.cell k hk), fun k hk => (h.by_ k hk).below hB⟩
theorem bs_cells (W : World) {a : Option Addr} {len cap : Nat} {xs : List Dt} (h : SliceFits Try.prog W 26 a len cap xs) : ∃ (b o : Nat) (H : Nat → BsE), BsIn W a len cap b o H := by
  have hc : Try.prog.cellsOf 26 = 1 := by kernel_rfl
  obtain ⟨b, o, h1, h2⟩ := h.spot (by rw [hc]; omega)
  have hex : ∀ k, ∃ q : BsE, k < len → W.cell? ⟨b, o + k, none⟩ = some (.slice q.a q.n q.c) ∧ ByIn W q.a q.n q.c q.b q.o q.X := fun k => by
    by_cases hk : k < len
    · have hl := h.length
      have hx := List.getElem?_eq_getElem (l := xs) (i := k) (by omega)
      obtain ⟨a1, n1, c1, ys, e0, f0⟩ := (h.each k _ hx).1.slice_inv Try.underlying26
      obtain ⟨b1, o1, X1, hX⟩ := by_cells W f0
      have hcell := h2 k _ hx
      rw [e0, hc] at hcell
      exact ⟨⟨a1, n1, c1, b1, o1, X1⟩, fun _ => ⟨by have := hcell 0 _ rfl; rwa [Nat.mul_one] at this, hX⟩⟩
    · exact ⟨⟨none, 0, 0, 0, 0, fun _ => 0⟩, fun h => absurd h hk⟩
  have hg := fun k => Classical.choose_spec (hex k)
  exact ⟨b, o, fun k => Classical.choose (hex k), h.le, h.max, h1, fun k hk => (hg k hk).1, fun k hk => (hg k hk).2⟩
def eqS (A B : BsE) : Bool := A.n == B.n && eqB A.X B.X A.n
structure OkR (nI : Nat) (HI HB : Nat → BsE) (S : Nat → SentE) (FE : Nat → FlowE) (nf i : Nat) : Prop where
  lo : 1 ≤ (S i).pk
  hi : (S i).pk ≤ nI
  eq : eqS (HB i) (HI ((S i).pk.toNat - 1)) = true
  ok : parseOk (HB i).X (HB i).n = true
  f : flowE ((HB i).X 1 : Nat) ((HB i).X 2 : Nat) FE nf = 0
  ten : (S i).ten = ((HB i).X 1 : Nat)
  fl : (S i).fl = flowK ((HB i).X 1 : Nat) ((HB i).X 2 : Nat) FE nf
  sz : (S i).sz = ((HB i).n : Nat)
structure WhP (w : World) (P : Prop) (e : Ending) (w' : World) : Prop where
  ex : ∃ B : Bool, e = .returned (.bool B) ∧ (B = true ↔ P)
  b : Below w.heap.size w w'
def NoD (S : Nat → SentE) (i : Nat) : Prop := ∀ j, j < i → (S j).pk ≠ (S i).pk ∧ ¬ ((S j).fl = (S i).fl ∧ (S i).pk < (S j).pk)
def WOk (nI : Nat) (HI HB : Nat → BsE) (S : Nat → SentE) (FE : Nat → FlowE) (nf no nB : Nat) : Prop := no = nB ∧ ∀ i, i < no → OkR nI HI HB S FE nf i ∧ NoD S i
theorem parse_out {w w' : World} {n : Nat} {X : Nat → Nat} {e : Ending} (h : ParseP w n X e w') : Below w.heap.size w w' ∧ ∃ (t c : Int) (a' : Option Addr) (n' c' : Nat) (E : Int), e = .returned (.tuple #[.agg #[.int .i64 0, .int .i64 t, .int .i64 c, .slice a' n' c'], .int .i64 E]) ∧ ((E = 230 ∧ parseOk X n = false ∧ n' = 0) ∨ (E = 0 ∧ parseOk X n = true ∧ t = (X 1 : Nat) ∧ c = (X 2 : Nat) ∧ n' = n - 8)) := by
  obtain ⟨hB, h⟩ := h
  refine ⟨hB, ?_⟩
  rcases h with ⟨h1, h2⟩ | ⟨h1, a', c', b', h2, _⟩
  · exact ⟨0, 0, none, 0, 0, 230, h2, .inl ⟨rfl, h1, rfl⟩⟩
  · exact ⟨_, _, a', n - 8, c', 0, h2, .inr ⟨rfl, h1, rfl, rfl, rfl⟩⟩
theorem by_eq {W : World} {A B : BsE} (hA : ByIn W A.a A.n A.c A.b A.o A.X) (hB : ByIn W B.a B.n B.c B.b B.o B.X) (h : eqS A B = true) : ByIn W B.a B.n B.c B.b B.o A.X := by
  unfold eqS at h
  simp only [Bool.and_eq_true, beq_iff_eq] at h
  have h2 := (eqB_iff _ _ _).1 h.2
  exact ⟨hB.le, hB.max, hB.at_, fun k hk => by rw [h2 k (by rw [h.1]; exact hk)]; exact hB.cell k hk, hA.bd⟩
set_option maxRecDepth 100000 in
set_option maxHeartbeats 40000000 in
theorem rwhole_any (ia : Option Addr) (nI ic ib io : Nat) (HI : Nat → BsE) (fa : Option Addr) (nf fc fb fo : Nat) (FE : Nat → FlowE) (oa : Option Addr) (no oc ob oo : Nat) (S : Nat → SentE) (ba : Option Addr) (nB bc bb bo : Nat) (HB : Nat → BsE) (w : World)
    (hI : BsIn w ia nI ic ib io HI) (hF : FlowIn w fa nf fc fb fo FE) (hO : SentIn w oa no oc ob oo S) (hB : BsIn w ba nB bc bb bo HB) (l1 : nI ≤ 60) (l2 : nf ≤ 60) (l3 : no ≤ 60) (l4 : ∀ k, k < nI → (HI k).n ≤ 60000) (l5 : ∀ k, k < nB → (HB k).n ≤ 60000) :
    Calls Try.prog 11 #[.slice ia nI ic, .slice fa nf fc, .slice oa no oc, .slice ba nB bc] w (WhP w (WOk nI HI HB S FE nf no nB)) := by
  have HHI := Lib.hid hI
  have HHF := Lib.hid hF
  have HHO := Lib.hid hO
  have HHB := Lib.hid hB
  have HL := Lib.hid (show nI ≤ 60 ∧ nf ≤ 60 ∧ no ≤ 60 from ⟨l1, l2, l3⟩)
  have HLI := Lib.hid l4
  have HLB := Lib.hid l5
  clear hI hF hO hB l1 l2 l4 l5
  by_cases hne : no = nB
  rotate_left
  · have HNO : Hid (¬ WOk nI HI HB S FE nf no nB) := Lib.hid (fun h => hne h.1)
    have d1 : ((no : Int) != (nB : Int)) = true := by simp; omega
    clear hne
    go_enter Try.func11, Try.ntmps11
    go_wp2_with fail
    try rw [Exit.noGoto_ret]
    go_ret
    exact ⟨⟨false, rfl, (fun h => by cases h), fun h => absurd h HNO.out⟩, Below.refl _ _⟩
  subst hne
  have d1 : ((no : Int) != (no : Int)) = false := by simp
  go_enter Try.func11, Try.ntmps11
  go_wp2_with fail
  go_loopw [9, 10, 11, 12, 13, 14, 15, 16] (fun vi _ _ _ _ _ _ _ wr => ∃ k : Nat, k ≤ no ∧ vi = .int .i64 k ∧ (∀ i, i < k → OkR nI HI HB S FE nf i ∧ NoD S i) ∧ Below w.heap.size w wr) (fun vi _ _ _ _ _ _ _ _ => no - (intOf vi).toNat)
  case atStart => exact ⟨0, Nat.zero_le _, rfl, (fun i h => by omega), Below.refl _ _⟩
  case round =>
    obtain ⟨k, hk, rfl, hok, hBk⟩ := hrel
    have HOK := Lib.hid hok
    have HBK := Lib.hid hBk
    by_cases hlt : k < no
    rotate_left
    · obtain rfl : k = no := by omega
      clear hok hBk hlt
      go_wp2_with fail
      try rw [Exit.noGoto_ret]
      go_ret
      exact ⟨⟨true, rfl, (fun _ => ⟨rfl, HOK.out⟩), fun _ => rfl⟩, HBK.out⟩
    have HLT := Lib.hid hlt
    obtain ⟨ea, hol⟩ := HHO.out.at_ (by omega)
    subst ea
    obtain ⟨eb, hbl⟩ := HHB.out.at_ (by omega)
    subst eb
    have b9 : ((k : Int) < (no : Int)) = True := eq_true (by omega)
    have bk1 : (k < no) = True := eq_true hlt
    have b0 : ((0 : Int) ≤ (k : Int)) = True := eq_true (by omega)
    have wk5 : IntKind.i64.wrap ((k : Int) + 1) = (k : Int) + 1 := IntWalk.i64_in _ (by omega)
    have HSC := Lib.hid (fun (W' : World) (hB' : Below w.heap.size w W') => (HHO.out.below hB').cell k HLT.out)
    have HBC := Lib.hid (fun (W' : World) (hB' : Below w.heap.size w W') => (HHB.out.below hB').cell k HLT.out)
    have HBY := Lib.hid (fun (W' : World) (hB' : Below w.heap.size w W') => (HHB.out.below hB').by_ k HLT.out)
    obtain ⟨Y, hY⟩ : ∃ y, y = HB k := ⟨_, rfl⟩
    rw [← hY] at HBC HBY
    have HYE := Lib.hid hY
    have hly : Y.n ≤ 60000 := by rw [hY]; exact HLB.out k hlt
    have HYN := Lib.hid hly
    obtain ⟨PK, hPK⟩ : ∃ x, x = (S k).pk := ⟨_, rfl⟩
    obtain ⟨TEN, hTEN⟩ : ∃ x, x = (S k).ten := ⟨_, rfl⟩
    obtain ⟨FL, hFL⟩ : ∃ x, x = (S k).fl := ⟨_, rfl⟩
    obtain ⟨SZ, hSZ⟩ : ∃ x, x = (S k).sz := ⟨_, rfl⟩
    rw [← hPK, ← hTEN, ← hFL, ← hSZ] at HSC
    have HPK := Lib.hid hPK
    have HTEN := Lib.hid hTEN
    have HFL := Lib.hid hFL
    have HSZ := Lib.hid hSZ
    have hpb := (HHO.out.bd k hlt).2.2.2.2.2
    rw [← hPK] at hpb
    obtain ⟨-, -, -, -, -, c5⟩ := HSC.out wr hBk
    clear hok hBk hlt hY hPK hTEN hFL hSZ hly hol hbl
    by_cases hlo : PK < 1
    · have HNO : Hid (¬ WOk nI HI HB S FE nf no no) := Lib.hid (fun h => by have := (h.2 k HLT.out).1.lo; rw [← HPK.out] at this; omega)
      have d2 : decide (PK < 1) = true := decide_eq_true hlo
      clear hlo
      go_wp2_with fail
      try rw [Exit.noGoto_ret]
      go_ret
      exact ⟨⟨false, rfl, (fun h => by cases h), fun h => absurd h HNO.out⟩, HBK.out⟩
    by_cases hhi : (nI : Int) < PK
    · have HNO : Hid (¬ WOk nI HI HB S FE nf no no) := Lib.hid (fun h => by have := (h.2 k HLT.out).1.hi; rw [← HPK.out] at this; omega)
      have d2 : decide (PK < 1) = false := decide_eq_false hlo
      have d3 : decide ((nI : Int) < PK) = true := decide_eq_true hhi
      clear hlo hhi
      go_wp2_with fail
      try rw [Exit.noGoto_ret]
      go_ret
      exact ⟨⟨false, rfl, (fun h => by cases h), fun h => absurd h HNO.out⟩, HBK.out⟩
    have d2 : decide (PK < 1) = false := decide_eq_false hlo
    have d3 : decide ((nI : Int) < PK) = false := decide_eq_false hhi
    obtain ⟨P, hP⟩ : ∃ P : Nat, PK = (P : Int) + 1 := ⟨(PK - 1).toNat, by omega⟩
    have hPn : P < nI := by omega
    have wp : IntKind.i64.wrap (PK - 1) = (P : Int) := (IntWalk.i64_in _ (by omega)).trans (by omega)
    have HP := Lib.hid hP
    have HPN := Lib.hid hPn
    obtain ⟨ei, hil⟩ := HHI.out.at_ (by omega)
    subst ei
    have HIC := Lib.hid (fun (W' : World) (hB' : Below w.heap.size w W') => (HHI.out.below hB').cell P HPN.out)
    have hiy := fun (W' : World) (hB' : Below w.heap.size w W') => (HHI.out.below hB').by_ P HPN.out
    obtain ⟨Z, hZ⟩ : ∃ y, y = HI P := ⟨_, rfl⟩
    rw [← hZ] at HIC hiy
    have HZE : Hid (Z = HI ((S k).pk.toNat - 1)) := Lib.hid (by rw [hZ, ← HPK.out, hP]; congr 1)
    have HZN : Hid (Z.n ≤ 60000) := Lib.hid (by rw [hZ]; exact HLI.out P hPn)
    obtain ⟨XP, hxp, hxe⟩ : ∃ XP : Nat → Nat, (∀ W', Below w.heap.size w W' → ByIn W' Z.a Z.n Z.c Z.b Z.o XP) ∧ (eqS Y Z = true → XP = Y.X) := by
      by_cases h : eqS Y Z = true
      · exact ⟨Y.X, fun W' hB' => by_eq (HBY.out W' hB') (hiy W' hB') h, fun _ => rfl⟩
      · exact ⟨Z.X, hiy, fun h2 => absurd h2 h⟩
    have HXP := Lib.hid hxp
    have HXE := Lib.hid hxe
    have HZS : Hid (∀ W', Below w.heap.size w W' → (convert 26 9 (.slice Z.a Z.n Z.c)).run Try.prog W' = .ok (.string ⟨(bytesOf Z.X Z.n).toArray⟩) W') := Lib.hid (fun W' hB' => (hiy W' hB').string)
    have HYS : Hid (∀ W', Below w.heap.size w W' → (convert 26 9 (.slice Y.a Y.n Y.c)).run Try.prog W' = .ok (.string ⟨(bytesOf Y.X Y.n).toArray⟩) W') := Lib.hid (fun W' hB' => (HBY.out W' hB').string)
    have HTE : Hid ((bytesOf Z.X Z.n == bytesOf Y.X Y.n) = eqS Y Z) := Lib.hid (by
      rw [bytesOf_eq _ _ (hiy w (Below.refl _ _)).bd (HBY.out w (Below.refl _ _)).bd]
      unfold eqS
      rw [Bool.eq_iff_iff]
      simp only [Bool.and_eq_true, beq_iff_eq, eqB_iff]
      constructor
      · rintro ⟨h1, h2⟩; exact ⟨h1.symm, fun j hj => (h2 j (by omega)).symm⟩
      · rintro ⟨h1, h2⟩; exact ⟨h1.symm, fun j hj => (h2 j (by omega)).symm⟩)
    have bp1 : (P < nI) = True := eq_true hPn
    have bp2 : ((P : Int) < (nI : Int)) = True := eq_true (by omega)
    have bp0 : ((0 : Int) ≤ (P : Int)) = True := eq_true (by omega)
    have ci := HIC.out wr HBK.out
    clear hlo hhi hP hPn hil hiy hZ hxp hxe
    go_wp2_with fail
    go_at_call 6
    go_fit (rparse_any _ _ _ _ _ XP _ (HXP.out _ HBK.out) (by have := HZN.out; omega))
    rintro e W1 hp
    obtain ⟨hB1, t, c, a', n', c', E, rfl, hE⟩ := parse_out hp
    have HB1 := Lib.hid (HBK.out.trans (hB1.mono HBK.out.size))
    have HE := Lib.hid hE
    obtain ⟨G, hG⟩ : ∃ N, N = W1.heap.size := ⟨_, rfl⟩
    obtain ⟨W2, hW2⟩ : ∃ W, W = W1.alloc (.cells #[.int .i64 0, .int .i64 t, .int .i64 c, .slice a' n' c'] 29) := ⟨_, rfl⟩
    have hB2 : Below W1.heap.size W1 W2 := by rw [hW2]; exact alloc_b9 _ _
    have HG2 := Lib.hid (show Blk W2 G #[.int .i64 0, .int .i64 t, .int .i64 c, .slice a' n' c'] 29 by rw [hW2, hG]; exact blk_new _ _ _)
    have HB2 := Lib.hid (HB1.out.trans (hB2.mono HB1.out.size))
    clear hp hB1 hE hB2 c5 ci
    go_upto_region 11 with fail
    rw [← hG, ← hW2]
    clear hG hW2
    have g0 : W2.cell? ⟨G, 0, none⟩ = some (.int .i64 0) := cell_at HG2.out 0
    have g1 : W2.cell? ⟨G, 1, none⟩ = some (.int .i64 t) := cell_at HG2.out 1
    have g2 : W2.cell? ⟨G, 2, none⟩ = some (.int .i64 c) := cell_at HG2.out 2
    have g3 : W2.cell? ⟨G, 3, none⟩ = some (.slice a' n' c') := cell_at HG2.out 3
    go_wp2_with fail
    go_at_call 24
    go_fit (rflow_any 0 t c a' n' c' fa nf fc fb fo FE _ (HHF.out.below HB2.out) (by have := HL.out; omega))
    rintro e W3 ⟨rfl, hB3⟩
    have HG3 := Lib.hid (HG2.out.step hB3)
    have HB3 := Lib.hid (HB2.out.trans (hB3.mono HB2.out.size))
    obtain ⟨K0, hK0⟩ : ∃ x, x = flowK t c FE nf := ⟨_, rfl⟩
    obtain ⟨F0, hF0⟩ : ∃ x, x = flowE t c FE nf := ⟨_, rfl⟩
    rw [← hK0, ← hF0]
    have HK0 := Lib.hid hK0
    have HF0 := Lib.hid hF0
    clear g0 g1 g2 g3 hB3 hK0 hF0 HG2
    have g1 : W3.cell? ⟨G, 1, none⟩ = some (.int .i64 t) := cell_at HG3.out 1
    obtain ⟨-, -, c2, c3, c4, c5⟩ := HSC.out W3 HB3.out
    have cb := HBC.out W3 HB3.out
    have cvZ := fun m => HZS.out (W3.drewN m) (HB3.out.trans ((dN9 W3 m).mono HB3.out.size))
    have cvY := fun m => HYS.out (W3.drewN m) (HB3.out.trans ((dN9 W3 m).mono HB3.out.size))
    obtain ⟨S1, hS1⟩ : ∃ S, S = (⟨(bytesOf Z.X Z.n).toArray⟩ : ByteArray) := ⟨_, rfl⟩
    obtain ⟨S2, hS2⟩ : ∃ S, S = (⟨(bytesOf Y.X Y.n).toArray⟩ : ByteArray) := ⟨_, rfl⟩
    rw [← hS1] at cvZ
    rw [← hS2] at cvY
    have hte : (S1.toList == S2.toList) = eqS Y Z := by rw [hS1, hS2, ByteArray.toList_eq, ByteArray.toList_eq]; exact HTE.out
    obtain ⟨EQ, hEQ⟩ : ∃ b, b = eqS Y Z := ⟨_, rfl⟩
    rw [← hEQ] at hte
    have HEQ := Lib.hid hEQ
    clear hS1 hS2 hEQ
    go_upto_region 12 with fail
    rcases HE.out with ⟨e1, e2, e3⟩ | ⟨e1, e2, e3, e4, e5⟩
    · subst e1
      have HNO : Hid (¬ WOk nI HI HB S FE nf no no) := Lib.hid (fun h => by
        have h9 := (h.2 k HLT.out).1
        have h10 := h9.eq
        rw [← HZE.out, ← HYE.out] at h10
        have h11 := h9.ok
        rw [← HYE.out] at h11
        rw [HXE.out h10] at e2
        have h12 : Y.n = Z.n := by unfold eqS at h10; simp only [Bool.and_eq_true, beq_iff_eq] at h10; exact h10.1
        rw [← h12, h11] at e2
        cases e2
      )
      clear e2 e3
      (refine wp_region_quiet_lit (by kernel_rfl) (by kernel_rfl) ?_; (repeat (first | go_big_quiet_step (fail) | (refine BigFrame.wpQuiet_skip (by rfl) ?_; try simp only [Act.put, List.setIfInBounds_toArray, List.set_cons_zero, List.set_cons_succ]))); refine wpQuiet_nil ?_; intro _ hw9; obtain ⟨nq, hw8⟩ := hw9; subst hw8)
      go_wp2_with fail
      try rw [Exit.noGoto_ret]
      go_ret
      exact ⟨⟨false, rfl, (fun h => by cases h), fun h => absurd h HNO.out⟩, HB3.out.trans ((dN9 W3 nq).mono HB3.out.size)⟩

    subst e1
    have HXY : Hid (EQ = true → XP = Y.X) := Lib.hid (fun h => HXE.out (by rw [← HEQ.out]; exact h))
    by_cases hf : F0 = 0
    rotate_left
    · have dF : ((F0 : Int) != 0) = true := by simpa using hf
      have HNO : Hid (¬ WOk nI HI HB S FE nf no no) := Lib.hid (fun h => by
        have h9 := (h.2 k HLT.out).1
        have h10 := h9.eq
        rw [← HZE.out, ← HYE.out, ← HEQ.out] at h10
        have h11 := h9.f
        rw [← HYE.out, ← HXY.out h10, ← e3, ← e4, ← HF0.out] at h11
        exact hf h11
      )
      clear hf e2 e3 e4 e5
      (refine wp_region_quiet_lit (by kernel_rfl) (by kernel_rfl) ?_; (repeat (first | go_big_quiet_step (fail) | (refine BigFrame.wpQuiet_skip (by rfl) ?_; try simp only [Act.put, List.setIfInBounds_toArray, List.set_cons_zero, List.set_cons_succ]))); refine wpQuiet_nil ?_; intro _ hw9; obtain ⟨nq, hw8⟩ := hw9; subst hw8)
      go_wp2_with fail
      try rw [Exit.noGoto_ret]
      go_ret
      exact ⟨⟨false, rfl, (fun h => by cases h), fun h => absurd h HNO.out⟩, HB3.out.trans ((dN9 W3 nq).mono HB3.out.size)⟩
    have dF : ((F0 : Int) != 0) = false := by simpa using hf
    cases EQ
    · have HNO : Hid (¬ WOk nI HI HB S FE nf no no) := Lib.hid (fun h => by
        have h9 := (h.2 k HLT.out).1
        have h10 := h9.eq
        rw [← HZE.out, ← HYE.out, ← HEQ.out] at h10
        cases h10
      )
      clear hf e2 e3 e4 e5
      (refine wp_region_quiet_lit (by kernel_rfl) (by kernel_rfl) ?_; (repeat (first | go_big_quiet_step (fail) | (refine BigFrame.wpQuiet_skip (by rfl) ?_; try simp only [Act.put, List.setIfInBounds_toArray, List.set_cons_zero, List.set_cons_succ]))); refine wpQuiet_nil ?_; intro _ hw9; obtain ⟨nq, hw8⟩ := hw9; subst hw8)
      go_wp2_with fail
      try rw [Exit.noGoto_ret]
      go_ret
      exact ⟨⟨false, rfl, (fun h => by cases h), fun h => absurd h HNO.out⟩, HB3.out.trans ((dN9 W3 nq).mono HB3.out.size)⟩
    have hX := HXY.out rfl
    subst hX
    by_cases hten : TEN = t
    rotate_left
    · have dT : ((TEN : Int) != t) = true := by simpa using hten
      have HNO : Hid (¬ WOk nI HI HB S FE nf no no) := Lib.hid (fun h => by
        have h9 := (h.2 k HLT.out).1
        have h11 := h9.ten
        rw [← HYE.out, ← HTEN.out, ← e3] at h11
        exact hten h11
      )
      clear hf hten e2 e3 e4 e5
      (refine wp_region_quiet_lit (by kernel_rfl) (by kernel_rfl) ?_; (repeat (first | go_big_quiet_step (fail) | (refine BigFrame.wpQuiet_skip (by rfl) ?_; try simp only [Act.put, List.setIfInBounds_toArray, List.set_cons_zero, List.set_cons_succ]))); refine wpQuiet_nil ?_; intro _ hw9; obtain ⟨nq, hw8⟩ := hw9; subst hw8)
      go_wp2_with fail
      try rw [Exit.noGoto_ret]
      go_ret
      exact ⟨⟨false, rfl, (fun h => by cases h), fun h => absurd h HNO.out⟩, HB3.out.trans ((dN9 W3 nq).mono HB3.out.size)⟩
    have dT : ((TEN : Int) != t) = false := by simpa using hten
    by_cases hfl : FL = K0
    rotate_left
    · have dL : ((FL : Int) != K0) = true := by simpa using hfl
      have HNO : Hid (¬ WOk nI HI HB S FE nf no no) := Lib.hid (fun h => by
        have h9 := (h.2 k HLT.out).1
        have h11 := h9.fl
        rw [← HYE.out, ← HFL.out, ← e3, ← e4, ← HK0.out] at h11
        exact hfl h11
      )
      clear hf hten hfl e2 e3 e4 e5
      (refine wp_region_quiet_lit (by kernel_rfl) (by kernel_rfl) ?_; (repeat (first | go_big_quiet_step (fail) | (refine BigFrame.wpQuiet_skip (by rfl) ?_; try simp only [Act.put, List.setIfInBounds_toArray, List.set_cons_zero, List.set_cons_succ]))); refine wpQuiet_nil ?_; intro _ hw9; obtain ⟨nq, hw8⟩ := hw9; subst hw8)
      go_wp2_with fail
      try rw [Exit.noGoto_ret]
      go_ret
      exact ⟨⟨false, rfl, (fun h => by cases h), fun h => absurd h HNO.out⟩, HB3.out.trans ((dN9 W3 nq).mono HB3.out.size)⟩
    have dL : ((FL : Int) != K0) = false := by simpa using hfl
    have hYZ : Y.n = Z.n := by have h10 := HEQ.out; unfold eqS at h10; have := h10.symm; simp only [Bool.and_eq_true, beq_iff_eq] at this; exact this.1
    by_cases hsz : SZ = (Z.n : Int)
    rotate_left
    · have dS : ((SZ : Int) != (Z.n : Int)) = true := by simpa using hsz
      have HNO : Hid (¬ WOk nI HI HB S FE nf no no) := Lib.hid (fun h => by
        have h9 := (h.2 k HLT.out).1
        have h11 := h9.sz
        rw [← HYE.out, ← HSZ.out, hYZ] at h11
        exact hsz h11
      )
      clear hf hten hfl hsz hYZ e2 e3 e4 e5
      (refine wp_region_quiet_lit (by kernel_rfl) (by kernel_rfl) ?_; (repeat (first | go_big_quiet_step (fail) | (refine BigFrame.wpQuiet_skip (by rfl) ?_; try simp only [Act.put, List.setIfInBounds_toArray, List.set_cons_zero, List.set_cons_succ]))); refine wpQuiet_nil ?_; intro _ hw9; obtain ⟨nq, hw8⟩ := hw9; subst hw8)
      go_wp2_with fail
      try rw [Exit.noGoto_ret]
      go_ret
      exact ⟨⟨false, rfl, (fun h => by cases h), fun h => absurd h HNO.out⟩, HB3.out.trans ((dN9 W3 nq).mono HB3.out.size)⟩
    have dS : ((SZ : Int) != (Z.n : Int)) = false := by simpa using hsz
    have HOKK : Hid (OkR nI HI HB S FE nf k) := Lib.hid ⟨by rw [← HPK.out, HP.out]; omega, by rw [← HPK.out, HP.out]; have := HPN.out; omega, by rw [← HZE.out, ← HYE.out, ← HEQ.out], by rw [← HYE.out, hYZ]; exact e2, by rw [← HYE.out, ← e3, ← e4, ← HF0.out]; exact hf, by rw [← HYE.out, ← HTEN.out, ← e3]; exact hten, by rw [← HYE.out, ← HFL.out, ← e3, ← e4, ← HK0.out]; exact hfl, by rw [← HYE.out, ← HSZ.out, hYZ]; exact hsz⟩
    have HFK : Hid (FL = K0) := Lib.hid hfl
    clear hf hten hfl hsz hYZ e2 e3 e4 e5
    (refine wp_region_quiet_lit (by kernel_rfl) (by kernel_rfl) ?_; (repeat (first | go_big_quiet_step (fail) | (refine BigFrame.wpQuiet_skip (by rfl) ?_; try simp only [Act.put, List.setIfInBounds_toArray, List.set_cons_zero, List.set_cons_succ]))); refine wpQuiet_nil ?_; intro _ hw9; obtain ⟨nq, hw8⟩ := hw9; subst hw8)
    obtain ⟨W4, hW4⟩ : ∃ X, X = W3.drewN nq := ⟨_, rfl⟩
    rw [← hW4]
    have HB4 : Hid (Below w.heap.size w W4) := Lib.hid (by rw [hW4]; exact HB3.out.trans ((dN9 W3 nq).mono HB3.out.size))
    clear hW4 g1 c2 c3 c4 c5 cb cvZ cvY hte
    go_wp2_with fail
    go_loopw [16] (fun vj wq => ∃ j : Nat, j ≤ k ∧ vj = .int .i64 j ∧ (∀ i, i < j → (S i).pk ≠ PK ∧ ¬ ((S i).fl = K0 ∧ PK < (S i).pk)) ∧ Below w.heap.size w wq) (fun vj _ => k - (intOf vj).toNat)
    case atStart => exact ⟨0, Nat.zero_le _, rfl, (fun i h => by omega), HB4.out⟩
    case round =>
      obtain ⟨j, hj, rfl, hnd, hBj⟩ := hrel
      have HND := Lib.hid hnd
      have HBJ := Lib.hid hBj
      by_cases hlj : j < k
      rotate_left
      · obtain rfl : j = k := by omega
        clear hnd hBj hlj
        go_wp2_with fail
        go_roundw
        case rel => exact ⟨j + 1, by have := HLT.out; omega, by go_num, (fun i hi => by
          by_cases hij : i = j
          · subst hij
            refine ⟨HOKK.out, fun i2 hi2 => ?_⟩
            have := HND.out i2 hi2
            rw [← HPK.out, ← HFL.out, HFK.out]
            exact this
          · exact HOK.out i (by omega)), HBJ.out⟩
        case measure => (have h8 := HLT.out; first | (simp [intOf]; done) | (simp [intOf]; omega))
      obtain ⟨-, -, -, j3, -, j5⟩ := (HHO.out.below hBj).cell j (by have := HLT.out; omega)
      obtain ⟨PJ, hPJ⟩ : ∃ x, x = (S j).pk := ⟨_, rfl⟩
      obtain ⟨FJ, hFJ⟩ : ∃ x, x = (S j).fl := ⟨_, rfl⟩
      rw [← hPJ] at j5
      rw [← hFJ] at j3
      have HPJ := Lib.hid hPJ
      have HFJ := Lib.hid hFJ
      have hjn : j < no := by have := HLT.out; omega
      have m9 : ((j : Int) < (k : Int)) = True := eq_true (by omega)
      have m1 : (j < k) = True := eq_true hlj
      have m2 : (j < no) = True := eq_true hjn
      have m3 : ((j : Int) < (no : Int)) = True := eq_true (by omega)
      have m0 : ((0 : Int) ≤ (j : Int)) = True := eq_true (by omega)
      have mw : IntKind.i64.wrap ((j : Int) + 1) = (j : Int) + 1 := IntWalk.i64_in _ (by have := HL.out; omega)
      have HLJ := Lib.hid hlj
      clear hnd hBj hPJ hFJ hjn hlj
      by_cases hp : PJ = PK
      · have HNO : Hid (¬ WOk nI HI HB S FE nf no no) := Lib.hid (fun h => ((h.2 k HLT.out).2 j HLJ.out).1 (by rw [← HPJ.out, ← HPK.out]; exact hp))
        have q1 : ((PJ : Int) == PK) = true := by simpa using hp
        clear hp
        go_wp2_with fail
        try rw [Exit.noGoto_ret]
        go_ret
        exact ⟨⟨false, rfl, (fun h => by cases h), fun h => absurd h HNO.out⟩, HBJ.out⟩
      have q1 : ((PJ : Int) == PK) = false := by simpa using hp
      have HPP : Hid (PJ ≠ PK) := Lib.hid hp
      clear hp
      by_cases hfj : FJ = K0
      · have q2 : ((FJ : Int) == K0) = true := by simpa using hfj
        by_cases hg : PK < PJ
        · have HNO : Hid (¬ WOk nI HI HB S FE nf no no) := Lib.hid (fun h => ((h.2 k HLT.out).2 j HLJ.out).2 ⟨by rw [← HFJ.out, ← HFL.out, HFK.out]; exact hfj, by rw [← HPJ.out, ← HPK.out]; exact hg⟩)
          have q3 : decide (PK < PJ) = true := decide_eq_true hg
          clear hfj hg
          go_wp2_with fail
          try rw [Exit.noGoto_ret]
          go_ret
          exact ⟨⟨false, rfl, (fun h => by cases h), fun h => absurd h HNO.out⟩, HBJ.out⟩
        have q3 : decide (PK < PJ) = false := decide_eq_false hg
        have HGG : Hid (¬ (FJ = K0 ∧ PK < PJ)) := Lib.hid (fun h => hg h.2)
        clear hfj hg
        go_wp2_with fail
        go_roundw
        case rel => exact ⟨j + 1, by have := HLJ.out; omega, by go_num, (fun i hi => by
          by_cases hij : i = j
          · subst hij; rw [← HPJ.out, ← HFJ.out]; exact ⟨HPP.out, HGG.out⟩
          · exact HND.out i (by omega)), HBJ.out⟩
        case measure => (have h8 := HLJ.out; first | (simp [intOf]; done) | (simp [intOf]; omega))
      · have q2 : ((FJ : Int) == K0) = false := by simpa using hfj
        have HGG : Hid (¬ (FJ = K0 ∧ PK < PJ)) := Lib.hid (fun h => hfj h.1)
        clear hfj
        go_wp2_with fail
        go_roundw
        case rel => exact ⟨j + 1, by have := HLJ.out; omega, by go_num, (fun i hi => by
          by_cases hij : i = j
          · subst hij; rw [← HPJ.out, ← HFJ.out]; exact ⟨HPP.out, HGG.out⟩
          · exact HND.out i (by omega)), HBJ.out⟩
        case measure => (have h8 := HLJ.out; first | (simp [intOf]; done) | (simp [intOf]; omega))
end Go.Proofs.Ytcimcmfibinehaa
