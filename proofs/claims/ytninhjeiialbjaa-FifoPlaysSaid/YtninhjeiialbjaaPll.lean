/-
  The iterator that All answers: copies of the packets, one by one.
-/
import Derived.Test.YtninhjeiialbjaaPlk
namespace Go.Proofs.Ytninhjeiialbjaa
open Go.RowKit Go.Shelf
set_option linter.unusedSimpArgs false
set_option linter.unusedVariables false

attribute [local go_sem] Oper.semAt_some

/-- the packets that are told, where they lie -/
structure GAll (Bs : Nat) (v : Value) (ob : Option Nat) (n : Nat) (E : Nat → PkE) (W : World) : Prop where
  box : Blk W Bs #[v] 68
  row : Row W v ob 57 4 n (pL E n)
  ld : ∀ j, j < n → ByIn W (E j).a (E j).n (E j).ca (E j).b (E j).o (E j).X
  le : ∀ j, j < n → (E j).n ≤ 1492
theorem GAll.below {Bs : Nat} {v : Value} {ob : Option Nat} {n : Nat} {E : Nat → PkE} {W W' : World} (h : GAll Bs v ob n E W) (hB : Below W.heap.size W W') : GAll Bs v ob n E W' :=
  ⟨h.box.step hB, h.row.congr (fun g hg => hB.block g (by subst hg; exact h.row.lt)), fun j hj => (h.ld j hj).below hB, h.le⟩
/-- an element: a copy of the next packet -/
def nextE (m : Nat) (E : Nat → PkE) (pre : List PkE) (x : PkE) (W : World) : Prop := x.sim (E pre.length) ∧ ByIn W x.a x.n x.ca x.b x.o x.X ∧ (0 < x.n → m ≤ x.b)

set_option maxRecDepth 100000 in
set_option maxHeartbeats 4000000 in
theorem all1_in (nn : Nat) (hnn : 1 ≤ nn) (li Bs n : Nat) (v : Value) (ob : Option Nat) (E : Nat → PkE) (J Jx : List PkE → World → Prop) (W : World) (hG : GAll Bs v ob n E W) (h0 : J [] W)
    (hJa : ∀ pre A B, J pre A → Below A.heap.size A B → J pre B) (Kp : World → World → Prop) (hK : ∀ A B, Kp A B → GAll Bs v ob n E A → GAll Bs v ob n E B) (hKs : ∀ A B, Kp A B → A.heap.size ≤ B.heap.size) (m : Nat) (hm : m ≤ W.heap.size)
    (hY : ∀ pre x W1, J pre W1 → nextE m E pre x W1 → pre.length < n → YieldAt Fence.wide (nn - 1) Try.prog li (encPk x) W1 fun e W' =>
      (e = .returned (.bool true) ∧ J (pre ++ [x]) W' ∧ Kp W1 W') ∨ (e = .returned (.bool false) ∧ Jx (pre ++ [x]) W' ∧ Kp W1 W')) :
    CallsIn Fence.wide nn Try.prog 107 #[.func (.yield li) #[] #[], .pointer (some ⟨Bs, 0, none⟩)] W fun e W' => (∃ v, e = .returned v) ∧
      ((∃ ys, ys.length = n ∧ J ys W') ∨ (∃ pre, Jx pre W')) := by
  obtain ⟨a, cap, rfl, m1, m2, ha⟩ := hG.row.shape
  unfold maxLen at m2
  have c0 : W.cell? ⟨Bs, 0, none⟩ = some (.slice a n cap) := cell_at hG.box 0
  have l0 := hG.box.lt
  have HA := Lib.hid ha
  have HK := Lib.hid hK
  have HKS := Lib.hid hKs
  have HY := Lib.hid hY
  have HJA := Lib.hid hJa
  have HG := Lib.hid hG
  clear hG ha hK hY hJa hKs
  refine callsIn_of_wp Try.func107 rfl trivial ?_ rfl
  simp only [Try.ntmps107, List.size_toArray, List.length_cons, List.length_nil, Nat.reduceAdd, Nat.reduceSub, Array.replicate_succ, Array.replicate_zero, List.push_toArray, List.append_toArray, List.nil_append, List.cons_append]
  gi_wp2
  gi_loopw [7] (fun i wr => ∃ k : Nat, k ≤ n ∧ i = .int .i64 k ∧ (∃ pre, pre.length = k ∧ J pre wr) ∧ GAll Bs (.slice a n cap) ob n E wr ∧ m ≤ wr.heap.size) (fun i _ => n - (intOf i).toNat)
  case atStart => exact ⟨0, Nat.zero_le _, rfl, ⟨[], rfl, h0⟩, HG.out, hm⟩
  case round =>
    obtain ⟨k, hk, rfl, ⟨pre, hpl, hJ⟩, hg, hmw⟩ := hrel
    by_cases hlt : k < n
    · obtain ⟨g, hob, h8, h9⟩ := hg.row.cell (k * 4) (by omega)
      clear h8 h9
      have hcl : ∀ j, j < 4 → wr.cell? ⟨g, k * 4 + j, none⟩ = (E k).cells[j]? := fun j hj => by
        obtain ⟨g', hob', hcell, _⟩ := hg.row.cell (k * 4 + j) (by omega)
        rw [hob] at hob'
        obtain rfl := Option.some.inj hob'
        rw [hcell, pL_at E n k j hlt hj]
      have ha := HA.out
      rw [hob] at ha
      obtain rfl : a = some ⟨g, 0, none⟩ := ha
      have hl := hg.ld k hlt
      have hle := hg.le k hlt
      obtain ⟨x, hx⟩ : ∃ x, x = E k := ⟨_, rfl⟩
      rw [← hx] at hcl hl hle
      have d0 : wr.cell? ⟨g, k * 4, none⟩ = some (.int .i64 x.num) := hcl 0 (by omega)
      have d1 : wr.cell? ⟨g, k * 4 + 1, none⟩ = some (.int .i64 x.t) := hcl 1 (by omega)
      have d2 : wr.cell? ⟨g, k * 4 + 2, none⟩ = some (.int .i64 x.c) := hcl 2 (by omega)
      have d3 : wr.cell? ⟨g, k * 4 + 3, none⟩ = some (.slice x.a x.n x.ca) := hcl 3 (by omega)
      have hglt : g < wr.heap.size := by have := hg.row; rw [hob] at this; exact this.lt
      obtain ⟨WA, hWA⟩ : ∃ WA, WA = wr.alloc (.cells #[.int .i64 x.num, .int .i64 x.t, .int .i64 x.c, .slice x.a x.n x.ca] 57) := ⟨_, rfl⟩
      have hBA : Below wr.heap.size wr WA := by rw [hWA]; exact (Below.refl _ _).alloc (Nat.le_refl _) _
      have hSZ : m ≤ WA.heap.size := by have := hBA.size; omega
      have HTW : Hid (Calls Try.prog 79 #[.agg #[.int .i64 x.num, .int .i64 x.t, .int .i64 x.c, .slice x.a x.n x.ca]] WA fun e w' => ∃ a' c' b', e = .returned (.agg #[.int .i64 x.num, .int .i64 x.t, .int .i64 x.c, .slice a' x.n c']) ∧ ByIn w' a' x.n c' b' 0 x.X ∧ (0 < x.n → m ≤ b') ∧ Below WA.heap.size WA w' ∧ m ≤ w'.heap.size) := Lib.hid ((ftwin_any x.num x.t x.c x.a x.n x.ca x.b x.o x.X WA (hl.below hBA) (by omega)).mono (by
        rintro e w' ⟨a', c', b', q0, q1, q2, q3⟩
        exact ⟨a', c', b', q0, q1, fun h0 => Nat.le_trans hSZ (q2 h0), q3, Nat.le_trans hSZ q3.size⟩))
      have HG1 := Lib.hid (hg.below hBA)
      have HJ1 := Lib.hid (HJA.out _ _ _ hJ hBA)
      have HX := Lib.hid hx
      have HPL := Lib.hid hpl
      rw [hWA] at HTW HG1 HJ1
      clear hSZ
      clear hJ hg hcl hl hx hBA hWA hpl hob
      gi_wp2_with (first
        | (refine ⟨trivial, ?_⟩; gi_at_call 79; refine (callsIn_wide.2 HTW.out).mono ?_; rintro e W2 ⟨a', c', b', rfl, hby, hfr, hB2, hm2⟩; have HBY := Lib.hid hby; have HB2 := Lib.hid hB2
           have HG2 := Lib.hid (HG1.out.below hB2)
           have hY1 := HY.out pre ⟨x.num, x.t, x.c, a', x.n, c', b', 0, x.X⟩ W2 (HJA.out _ _ _ HJ1.out hB2) ⟨by rw [HPL.out, ← HX.out]; exact ⟨rfl, rfl, rfl, rfl, fun _ _ => rfl⟩, hby, hfr⟩ (by rw [HPL.out]; exact hlt)
           obtain ⟨fn, tmps, assign, body, hy, hR⟩ := hY1
           have hy' : (Instr.yield li #[.agg #[.int .i64 x.num, .int .i64 x.t, .int .i64 x.c, .slice a' x.n c']]).run Try.prog W2 = .ok (.round li fn tmps assign body) W2 := hy
           have HR := Lib.hid hR
           have HM2 : Hid (m ≤ W2.heap.size) := Lib.hid hm2
           clear hy hby hfr hB2 hR hm2)
        | (refine HR.out.mono ?_; rintro e W3 hE3; obtain ⟨yb, rfl, hy1, hy2⟩ := yn hE3; have HY1 := Lib.hid hy1; have HY2 := Lib.hid hy2; clear hE3 hy1 hy2)
        | fail)
      · rename_i hyb
        have hyb2 : yb = false := by simpa using hyb
        exact bodyPost_ret (results_none rfl _ _ _) rfl ⟨⟨_, rfl⟩, .inr ⟨_, (HY2.out hyb2).1⟩⟩
      · rename_i hyb
        have hyb2 : yb = true := by simpa using hyb
        obtain ⟨j1, j2⟩ := HY1.out hyb2
        go_roundw
        case rel => exact ⟨k + 1, by omega, by go_num, ⟨_, by rw [List.length_append, HPL.out]; rfl, j1⟩, HK.out _ _ j2 HG2.out, by have := HKS.out _ _ j2; have := HM2.out; omega⟩
        case measure => simp [intOf]; omega
    · obtain rfl : k = n := by omega
      clear HY
      gi_wp2
      go_end0
      exact ⟨⟨_, rfl⟩, .inl ⟨_, hpl, hJ⟩⟩

theorem all1_seqF (nn : Nat) (hnn : 1 ≤ nn) {w : World} (Bs n : Nat) (v : Value) (ob : Option Nat) (E : Nat → PkE) (hG : GAll Bs v ob n E w)
    {Kp : World → World → Prop} (hK : ∀ A B, Kp A B → GAll Bs v ob n E A → GAll Bs v ob n E B) (hKs : ∀ A B, Kp A B → A.heap.size ≤ B.heap.size) :
    SeqF nn Try.prog 107 #[.pointer (some ⟨Bs, 0, none⟩)] encPk (nextE (w.heap.size + 2) E) Kp (fun ys => ys.length = n) n w := by
  intro li J Jx W hm hW hJ hY h0
  exact all1_in nn hnn li Bs n v ob E J Jx W (hG.below hW) h0 hJ Kp hK hKs _ hm hY
end Go.Proofs.Ytninhjeiialbjaa
