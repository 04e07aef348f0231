/-
  Queues copied, heads made, a queue's rest: what a run does beside its picks.
-/
import Derived.Test.YtnainlemnkfpkaaFab
import Derived.Lib.AppendZeros
namespace Go.Proofs.Ytnainlemnkfpkaa
open Go.RowKit
set_option linter.unusedSimpArgs false
set_option linter.unusedVariables false

theorem in_grow {W : World} {M b : Nat} {ty : TypeId} {v : Value} {ob : Option Nat} {L : List Int} {x : Int} (h : InO M W v ob L) (hb : Blk W b #[.int .i64 x] 3) (ho : -9223372036854775808 ≤ x ∧ x ≤ 9223372036854775807) (hM : M ≤ W.heap.size) (hn : L.length ≤ 1000000) :
    ∃ v' ob' w', (Builtin.append_ #[22, 22] ty #[v, .slice (some ⟨b, 0, none⟩) 1 1]).run Try.prog W = .ok v' w' ∧ InO M w' v' (some ob') (L ++ [x]) ∧ W.grownBy w' ob ∧ (ob = some ob' ∨ ob' = W.heap.size) ∧ Below M W w' := by
  obtain ⟨r1, r4, r5⟩ := h
  obtain ⟨i0, hi, hz0, hz1, hz2⟩ := info_parts inZero
  obtain ⟨v', ob', w', hrun, s1, s2, s3⟩ := run_append_row (P := Try.prog) W 22 ty 3 i0 _ 1 8 Try.underlying22 hi hz0 hz1 hz2 rfl (by decide) v ob L.length (inL L) r1 ⟨b, 0, none⟩ 1 1 (inL [x]) (by decide) rfl (fun j u hu => by
    rw [addr_add, cell_at hb]
    have hj : j < 1 := (List.getElem?_eq_some_iff.1 hu).1
    obtain rfl : j = 0 := by omega
    simpa [inL] using hu) (inL_ones _) (by unfold maxLen; omega) (by omega)
  refine ⟨v', ob', w', hrun, ⟨by rw [List.length_append, inL_append]; exact s1, fun y hy => ?_, fun g e => ?_⟩, s2, s3, (Below.refl M W).grown s2 hM r5⟩
  · rcases List.mem_append.1 hy with h | h
    · exact r4 y h
    · simp at h; subst h; exact ho
  · obtain rfl := Option.some.inj e
    rcases s3 with h | h
    · exact r5 _ h
    · omega

def vsL (vq : Nat → Value) (n : Nat) : List Value := (List.range n).map vq
theorem vsL_len (vq : Nat → Value) (n : Nat) : (vsL vq n).length = n := by simp [vsL]
theorem vsL_at (vq : Nat → Value) {n k : Nat} (hk : k < n) : (vsL vq n)[k]? = some (vq k) := by simp [vsL, hk]
theorem vsL_set (vq : Nat → Value) {n k : Nat} (x : Value) : (vsL vq n).set k x = vsL (upf vq k x) n := by
  apply List.ext_getElem?
  intro i
  rw [List.getElem?_set]
  by_cases hi : i < n
  · by_cases hk : k = i
    · subst hk
      rw [if_pos rfl, if_pos (by rw [vsL_len]; exact hi), vsL_at _ hi, upf_at]
    · rw [if_neg hk, vsL_at _ hi, vsL_at _ hi, upf_ne _ _ (fun e => hk e.symm)]
  · rw [List.getElem?_eq_none (l := vsL (upf vq k x) n) (by rw [vsL_len]; omega), List.getElem?_eq_none (l := vsL vq n) (by rw [vsL_len]; omega), vsL_len]
    split
    · rw [if_neg (by omega)]
    · rfl
theorem sliInfo : (Try.prog.info? 22).map (fun i => (i.zero, i.size, i.bytes)) = some (some (.slice none 0 0), 1, 24) := by kernel_rfl
theorem inv_cell1 {W : World} {v : Value} {L : List Int} (h : InV W v L) : v.oneCell' = true := by
  obtain ⟨a, n, c, rfl, _⟩ := h.sh
  rfl
def QClP (w : World) (n : Nat) (vq : Nat → Value) (r : Ending) (w' : World) : Prop := ∃ a c ob, r = .returned (.slice a n c) ∧ Row w' (.slice a n c) ob 22 1 n (vsL vq n) ∧ Below w.heap.size w w' ∧ ∀ g, ob = some g → w.heap.size ≤ g
set_option maxHeartbeats 1000000 in
set_option maxRecDepth 100000 in
theorem qclone_any (a : Option Addr) (n c b o : Nat) (vq : Nat → Value) (Q : Nat → List Int) (w : World) (hs : QIn w a n c b o vq Q) (hn : n ≤ 1000) (h0 : 0 < n) :
    Calls Try.prog 38 #[.slice a n c] w (QClP w n vq) := by
  obtain ⟨rfl, hbl⟩ := hs.at_ h0
  have hc : ∀ j u, (vsL vq n)[j]? = some u → w.cell? ((⟨b, o, none⟩ : Addr).add j) = some u := fun j u hu => by
    have hj : j < n := by have := (List.getElem?_eq_some_iff.1 hu).1; rwa [vsL_len] at this
    rw [vsL_at vq hj] at hu
    rw [addr_pl, hs.cell j hj]
    exact hu
  have hone : ∀ u ∈ vsL vq n, u.oneCell' = true := fun u hu => by
    obtain ⟨k, hk, rfl⟩ := List.mem_map.1 hu
    exact inv_cell1 (hs.inv k (List.mem_range.1 hk))
  obtain ⟨i0, hi, hz0, hz1, hz2⟩ := info_parts sliInfo
  have HI := Lib.hid hi
  have hlen := vsL_len vq n
  obtain ⟨cs, hcs⟩ : ∃ cs, cs = vsL vq n := ⟨_, rfl⟩
  rw [← hcs] at hc hlen hone
  have HC := Lib.hid hc
  have HBL := Lib.hid hbl
  have HCS := Lib.hid hcs
  clear hs hi hcs hc hbl
  have heq := fun W => eql_nil W 45 22 (some ⟨b, o, none⟩) n c Try.underlying45
  go_enter Try.func38, Try.ntmps38
  have hown0 : (w.alloc (.cells #[] 22)).ownsRow w.heap.size 22 1 (.slice (some ⟨w.heap.size, 0, none⟩) 0 0) 0 [] :=
    ⟨rfl, .inr ⟨w.heap.size, 0, #[], rfl, Nat.le_refl _, heap_alloc_new w _, Nat.le_refl _, Nat.zero_le _, rfl, rfl⟩⟩
  go_wp2_with (at_builtin; refine wpList_append_own _ rfl (.tmp 5) (.tmp 6) 45 rfl w.heap.size 22 i0 (.slice none 0 0) 1 24 Try.underlying45 HI.out hz0 hz1 hz2 rfl (by decide) _ _ _ rfl hown0 ⟨b, o, none⟩ n c cs rfl (by rw [hlen, Nat.mul_one]) ?c1 ?c2 ?c3 ?c4 ?c5 ?_)
  case c1 =>
    intro j u hj
    exact (((Below.refl w.heap.size w).alloc (Nat.le_refl _) _).cell (p := (⟨b, o, none⟩ : Addr).add j) (by rw [addr_pl]; exact HBL.out)).trans (HC.out j u hj)
  case c2 => exact hone
  case c3 => unfold maxLen; omega
  case c4 => omega
  case c5 => simp
  intro v' w2 hown' hgrow _
  have hB : Below w.heap.size w w2 := ((Below.refl w.heap.size w).alloc (Nat.le_refl _) (.cells #[] 22)).grown hgrow (by simp) (fun j e => (hown0.lt j e).1)
  clear hgrow hown0
  have hown' : w2.ownsRow w.heap.size 22 1 v' n cs := by simpa using hown'
  have hRow : Row w2 v' v'.ownBlock 22 1 n cs := ⟨own_mono hown' (Nat.zero_le _), rfl⟩
  have hge : ∀ g, v'.ownBlock = some g → w.heap.size ≤ g := fun g hg => (hown'.lt g hg).1
  have HR := Lib.hid hRow
  obtain ⟨a2, c2, rfl, _, _, _⟩ := hRow.shape
  have HG := Lib.hid hge
  clear hRow hown' hge
  go_wp2
  go_ret
  exact ⟨_, _, _, rfl, by rw [← HCS.out]; exact HR.out, hB, HG.out⟩
theorem sizeIn : ∀ W : World, (sizeOf (Try.prog.elem 22)).run Try.prog W = .ok 1 W := fun W => by kernel_rfl
theorem elemIn : Try.prog.underlying 22 = some (.slice (Try.prog.elem 22)) := by kernel_rfl
def tailA (a : Option Addr) (c : Nat) : Option Addr := if c = 1 then a else a.map (·.add (1 * 1))
theorem inv_tail {W : World} {a : Option Addr} {ln c : Nat} {L : List Int} (h : InV W (.slice a ln c) L) (hl : 1 ≤ ln) :
    (∀ W' : World, (Instr.slice 22 (.slice a ln c) (some (.int .i64 1)) none none).run Try.prog W' = .ok (.slice (tailA a c) (ln - 1) (c - 1)) W') ∧ InV W (.slice (tailA a c) (ln - 1) (c - 1)) (L.drop 1) := by
  refine ⟨fun W' => ?_, ?_⟩
  · rw [run_slice_l W' 22 a ln c elemIn .i64 1 (by omega) (by omega), sizeIn]
    rfl
  · obtain ⟨a', b, o, c', e, h1⟩ := h
    injection e with e1 e2 e3
    subst e1 e2 e3
    have hll : (L.drop 1).length = L.length - 1 := by simp
    refine ⟨tailA a c, b, o + 1, c - 1, by rw [hll], by rw [hll]; have := h1.le; omega, by have := h1.max; omega, fun h0 => ?_, fun k hk => ?_, fun k hk => ?_⟩
    · rw [hll] at h0
      obtain ⟨ea, hb⟩ := h1.at_ (by omega)
      refine ⟨?_, hb⟩
      unfold tailA
      rw [if_neg (by have := h1.le; omega), ea]
      show some ((⟨b, o, none⟩ : Addr).add (1 * 1)) = _
      rw [addr_add]
    · rw [hll] at hk
      have := h1.cell (k + 1) (by omega)
      rw [show o + 1 + k = o + (k + 1) by omega, this]
      unfold gI
      rw [List.getElem?_drop, Nat.add_comm 1 k]
    · rw [hll] at hk
      have := h1.bd (k + 1) (by omega)
      have e : gI (L.drop 1) k = gI L (k + 1) := by unfold gI; rw [List.getElem?_drop, Nat.add_comm 1 k]
      rw [e]
      exact this
/-- heads of the call's own -/
structure HeAt (W : World) (HB n : Nat) (m : Nat → Int) : Prop where
  ex : ∃ cs, Blk W HB cs 67 ∧ ∀ k, k < n → cs[k * 2]? = some (.int .i64 (m k)) ∧ cs[k * 2 + 1]? = some (.int .i64 0)
theorem hdInfo : (Try.prog.info? 67).map (fun i => (i.zero, i.size, i.bytes)) = some (some (.agg #[.int .i64 0, .int .i64 0]), 2, 16) := by kernel_rfl
theorem make_heads (k : Nat) (h8 : k ≤ 8) (w : World) : (Instr.makeSlice 32 (.int .i64 (k : Int)) (.int .i64 (k : Int))).run Try.prog w = .ok (.slice (some ⟨w.heap.size, 0, none⟩) k k) (w.alloc (.cells (madeCells (Value.agg #[.int .i64 0, .int .i64 0]).cells (k * 2)) 67)) := by
  obtain ⟨i0, hi, hz0, hz1, hz2⟩ := info_parts hdInfo
  have hr := run_makeSlice (P := Try.prog) w 32 67 i0 _ Try.underlying32 hi hz0 .i64 .i64 k k (by omega) (Int.le_refl _) (by rw [hz1]; simp; omega) (by rw [hz2]; omega) (by omega)
  rw [hz1] at hr
  simpa only [Int.toNat_natCast] using hr
theorem made_at (n j : Nat) (hj : j < n * 2) : (madeCells (Value.agg #[.int .i64 0, .int .i64 0]).cells (n * 2))[j]? = some (.int .i64 0) := by
  rcases (show j % 2 = 0 ∨ j % 2 = 1 by omega) with e | e
  · simp [madeCells, hj, e, Value.cells]
  · simp [madeCells, hj, e, Value.cells]
theorem HeAt.new (w : World) (n : Nat) : HeAt (w.alloc (.cells (madeCells (Value.agg #[.int .i64 0, .int .i64 0]).cells (n * 2)) 67)) w.heap.size n (fun _ => 0) :=
  ⟨_, blk_new _ _ _, fun k hk => ⟨made_at n _ (by omega), made_at n _ (by omega)⟩⟩
theorem HeAt.lt {W : World} {HB n : Nat} {m : Nat → Int} (h : HeAt W HB n m) : HB < W.heap.size := by obtain ⟨cs, hb, _⟩ := h; exact hb.lt
theorem HeAt.free {W : World} {HB n : Nat} {m : Nat → Int} (h : HeAt W HB n m) (j : Nat) : W.frozen? ⟨HB, j, none⟩ = false := by obtain ⟨cs, hb, _⟩ := h; exact free_at hb j
theorem HeAt.cell {W : World} {HB n : Nat} {m : Nat → Int} (h : HeAt W HB n m) {k : Nat} (hk : k < n) : W.cell? ⟨HB, k * 2, none⟩ = some (.int .i64 (m k)) := by obtain ⟨cs, hb, hc⟩ := h; exact (cell_at hb _).trans (hc k hk).1
theorem HeAt.put {W W' : World} {HB n : Nat} {m : Nat → Int} (h : HeAt W HB n m) {k : Nat} (hk : k < n) (x : Int) (hW : W' = W.setCell ⟨HB, k * 2, none⟩ (.int .i64 x)) : HeAt W' HB n (upf m k x) ∧ Fr [HB] W W' := by
  obtain ⟨cs, hb, hc⟩ := h
  subst hW
  refine ⟨⟨_, hb.set _ _, fun j hj => ?_⟩, (Fr.refl _ _).setCell _ (.inl (by simp)) _⟩
  obtain ⟨c0, c1⟩ := hc j hj
  have hs := (Array.getElem?_eq_some_iff.1 (hc k hk).1).1
  simp only [Array.getElem?_setIfInBounds]
  by_cases hjk : j = k
  · subst hjk
    rw [upf_at]
    exact ⟨by rw [if_pos rfl, if_pos hs], by rw [if_neg (by omega)]; exact c1⟩
  · rw [upf_ne _ _ hjk]
    exact ⟨by rw [if_neg (by omega)]; exact c0, by rw [if_neg (by omega)]; exact c1⟩
theorem HeAt.in_ {W : World} {HB n : Nat} {m : Nat → Int} (h : HeAt W HB n m) (hm : okHd m n) (hn : n ≤ 8) : HdIn W (some ⟨HB, 0, none⟩) n n HB 0 (fun k => ⟨m k, 0⟩) := by
  obtain ⟨cs, hb, hc⟩ := h
  refine ⟨Nat.le_refl _, by unfold maxLen; omega, fun _ => ⟨rfl, hb.lt⟩, fun k hk => ?_, fun k hk => ?_⟩
  · rw [Nat.zero_add]
    exact ⟨(cell_at hb _).trans (hc k hk).1, (cell_at hb _).trans (hc k hk).2⟩
  · have := hm k hk
    simp [HdE.ok]
    omega
theorem HeAt.ty {W W' : World} {HB n : Nat} {m : Nat → Int} (h : HeAt W HB n m) {l : List TypeId} (ht : TyL l W W') (hn : 67 ∉ l) : HeAt W' HB n m := by
  obtain ⟨cs, hb, hc⟩ := h
  exact ⟨cs, ht _ _ _ hb hn, hc⟩
/-- memory of a run between two picks -/
structure RnAt (W0 W : World) (g fo ft n c1 c2 qb qc : Nat) (wt : Nat → Int) (al : Int) (s : FS) (vq : Nat → Value) (v7 : Value) (ob : Option Nat) (Q : Nat → List Int) (at_ : Nat → Nat) (O : List Int) : Prop where
  fr : FrAt W W0.heap.size g fo ft n c1 c2 wt al s
  iv : Inv n s
  qr : Row W (.slice (some ⟨qb, 0, none⟩) n qc) (some qb) 22 1 n (vsL vq n)
  qv : ∀ k, k < n → InV W0 (vq k) ((Q k).drop (at_ k))
  sv : InO W0.heap.size W v7 ob O
  b : Below W0.heap.size W0 W
  qge : W0.heap.size ≤ qb
section
variable {W0 W W' : World} {g fo ft n c1 c2 qb qc : Nat} {wt : Nat → Int} {al : Int} {s : FS} {vq : Nat → Value} {v7 : Value} {ob : Option Nat} {Q : Nat → List Int} {at_ : Nat → Nat} {O : List Int}
theorem row_frT {v : Value} {x : Nat} {e : TypeId} {sz m : Nat} {xs : List Value} {l : List Nat} (h : Row W v (some x) e sz m xs) (hf : Fr l W W') (hl : ∀ q ∈ l, ∃ cs ty, Blk W q cs ty ∧ ty ≠ e) : Row W' v (some x) e sz m xs :=
  h.congr fun q eq => by
    obtain rfl := Option.some.inj eq
    refine hf.block _ h.lt fun hm => ?_
    obtain ⟨cs, ty, hb, ht⟩ := hl _ hm
    exact row_blk_ne h hb ht rfl
theorem ino_frT {M : Nat} {v : Value} {o : Option Nat} {L : List Int} {l : List Nat} (h : InO M W v o L) (hf : Fr l W W') (hl : ∀ q ∈ l, ∃ cs ty, Blk W q cs ty ∧ ty ≠ 3) : InO M W' v o L := by
  refine ⟨?_, h.2⟩
  cases o with
  | none => exact h.1.congr fun q e => by cases e
  | some x => exact row_frT h.1 hf hl
theorem RnAt.step (h : RnAt W0 W g fo ft n c1 c2 qb qc wt al s vq v7 ob Q at_ O) (hB : Below W.heap.size W W') : RnAt W0 W' g fo ft n c1 c2 qb qc wt al s vq v7 ob Q at_ O :=
  ⟨h.fr.step hB, h.iv, row_frT h.qr (Fr.of_below hB) (by simp), h.qv, ino_frT h.sv (Fr.of_below hB) (by simp), h.b.trans (hB.mono h.b.size), h.qge⟩
theorem RnAt.other (h : RnAt W0 W g fo ft n c1 c2 qb qc wt al s vq v7 ob Q at_ O) {x : Nat} {cs : Array Value} {ty : TypeId} (hf : Fr [x] W W') (hb : Blk W x cs ty) (h1 : ty ∉ fTy) (h2 : ty ≠ 22) (h3 : ty ≠ 3) (hx : W0.heap.size ≤ x) : RnAt W0 W' g fo ft n c1 c2 qb qc wt al s vq v7 ob Q at_ O := by
  obtain ⟨n1, n2, n3⟩ := h.fr.ty hb h1
  have hl : ∀ (e : TypeId), ty ≠ e → ∀ q ∈ [x], ∃ cs ty, Blk W q cs ty ∧ ty ≠ e := fun e he q hq => by
    obtain rfl : q = x := by simpa using hq
    exact ⟨_, _, hb, he⟩
  exact ⟨h.fr.fr hf (by simpa using fun e => n1 e.symm) (by simpa using fun e => n2 e.symm) (by simpa using fun e => n3 e.symm), h.iv, row_frT h.qr hf (hl _ h2), h.qv, ino_frT h.sv hf (hl _ h3), h.b.trans (hf.below h.b.size (by simpa using hx)), h.qge⟩
theorem RnAt.pick (h : RnAt W0 W g fo ft n c1 c2 qb qc wt al s vq v7 ob Q at_ O) {s' : FS} (hp : PkP W0.heap.size g fo ft n c1 wt al s' W W') (hi : Inv n s') : ∃ ft' c', RnAt W0 W' g fo ft' n c1 c' qb qc wt al s' vq v7 ob Q at_ O := by
  obtain ⟨ft', c', hf, hr, _⟩ := hp.ex
  obtain ⟨cf, hcf, _⟩ := h.fr.fl
  obtain ⟨ct, hct⟩ := blk_row h.fr.tg
  have hl : ∀ (e : TypeId), e ∉ fTy → ∀ q ∈ [g, fo, ft], ∃ cs ty, Blk W q cs ty ∧ ty ≠ e := fun e he q hq => by
    simp only [List.mem_cons, List.not_mem_nil, or_false] at hq
    rcases hq with rfl | rfl | rfl
    · exact ⟨_, _, h.fr.blk, fun e' => he (by rw [← e']; simp [fTy])⟩
    · exact ⟨_, _, hcf, fun e' => he (by rw [← e']; simp [fTy])⟩
    · exact ⟨_, _, hct, fun e' => he (by rw [← e']; simp [fTy])⟩
  exact ⟨ft', c', hf, hi, row_frT h.qr hr (hl _ (by decide)), h.qv, ino_frT h.sv hr (hl _ (by decide)), h.b.trans (h.fr.frame hr (by simp)).b, h.qge⟩
/-- a queue's first goes -/
theorem RnAt.cut (h : RnAt W0 W g fo ft n c1 c2 qb qc wt al s vq v7 ob Q at_ O) {k : Nat} (hk : k < n) {x : Value} (hx : InV W0 x ((Q k).drop (at_ k + 1))) (hW : W' = W.setCell ⟨qb, k, none⟩ x) : RnAt W0 W' g fo ft n c1 c2 qb qc wt al s (upf vq k x) v7 ob Q (upf at_ k (at_ k + 1)) O := by
  have hf : Fr [qb] W W' := by rw [hW]; exact (Fr.refl _ _).setCell _ (.inl (by simp)) _
  obtain ⟨cq, hcq⟩ := blk_row h.qr
  obtain ⟨n1, n2, n3⟩ := h.fr.ty hcq (by decide)
  refine ⟨h.fr.fr hf (by simpa using fun e => n1 e.symm) (by simpa using fun e => n2 e.symm) (by simpa using fun e => n3 e.symm), h.iv, ?_, fun j hj => ?_, ino_frT h.sv hf (fun q hq => by
    obtain rfl : q = qb := by simpa using hq
    exact ⟨_, _, hcq, by decide⟩), h.b.trans (hf.below h.b.size (by simpa using h.qge)), h.qge⟩
  · have h1 := row_setCell h.qr k x
    rw [← hW, vsL_set] at h1
    exact h1
  · by_cases hjk : j = k
    · subst hjk
      rw [upf_at, upf_at]
      exact hx
    · rw [upf_ne _ _ hjk, upf_ne _ _ hjk]
      exact h.qv j hj
theorem RnAt.serve (h : RnAt W0 W g fo ft n c1 c2 qb qc wt al s vq v7 ob Q at_ O) {W1 : World} {v' : Value} {ob' : Nat} {O' : List Int} (hB : Below W.heap.size W W1) (hi : InO W0.heap.size W' v' (some ob') O') (hg : W1.grownBy W' ob) (hlo : Below W0.heap.size W1 W') : RnAt W0 W' g fo ft n c1 c2 qb qc wt al s vq v' (some ob') Q at_ O' := by
  have h1 := h.step hB
  obtain ⟨cf, hcf, _⟩ := h1.fr.fl
  obtain ⟨ct, hct⟩ := blk_row h1.fr.tg
  obtain ⟨cq, hcq⟩ := blk_row h1.qr
  have ne : ∀ {q : Nat} {cs : Array Value} {ty : TypeId}, Blk W1 q cs ty → ty ≠ 3 → q ∉ ob.toList := fun {q cs ty} hb ht hm => by
    have e : ob = some q := by simpa using hm
    have hr := h1.sv.1
    subst e
    exact row_blk_ne hr hb ht rfl
  have hf : Fr ob.toList W1 W' := ⟨hg.os, hg.tape, hg.output, hg.size, fun i hi hq => hg.block i hi (fun e => hq (by rw [← e]; simp))⟩
  exact ⟨h1.fr.fr hf (ne h1.fr.blk (by decide)) (ne hcf (by decide)) (ne hct (by decide)), h.iv, h1.qr.congr fun q e => by
    obtain rfl := Option.some.inj e
    exact hf.block _ h1.qr.lt (ne hcq (by decide)), h.qv, hi, h1.b.trans hlo, h.qge⟩
end
end Go.Proofs.Ytnainlemnkfpkaa
