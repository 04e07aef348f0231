/-
  Texts of this claim, put together: LgT2, LgPu, LgLt, LgC1, LgL6.
-/
import Derived.Test.YtfgnjpdlchimpaaLc1
import Derived.Test.YtfgnjpdlchimpaaLc3
import Derived.Test.YtfgnjpdlchimpaaLc4
import Derived.Test.YtfgnjpdlchimpaaLc5
import Derived.Test.YtfgnjpdlchimpaaLd1
import Derived.Deep.DeepFit
import Derived.Lib.AppendZeros
import Derived.Defers
namespace Go.Proofs.Ytfgnjpdlchimpaa
open Go.RowKit
set_option linter.unusedSimpArgs false
set_option linter.unusedVariables false

theorem FrB.blk {W W' : World} {ot : Option Nat} (hf : FrB W.heap.size ot.toList W W') (k : Nat) (hk : k < W.heap.size) (hne : ∀ g2, ot = some g2 → k ≠ g2) : W'.heap[k]? = W.heap[k]? := hf.block k hk (by cases ot with | none => simp | some g => simpa using hne g rfl)
theorem LeO.frBT {W W' : World} {M M2 : Nat} {v v2 : Value} {ob ot : Option Nat} {L : List LeE} {L2 : List TnE} (h : LeO M W v ob L) (hr : TnO M2 W v2 ot L2) (hf : FrB W.heap.size ot.toList W W') : LeO M W' v ob L := ⟨row_keep h.1 hr.1 (by decide) hf.blk, h.2.1, h.2.2⟩
theorem SeO.frBT {W W' : World} {M M2 : Nat} {v v2 : Value} {ob ot : Option Nat} {L : List SeE} {L2 : List TnE} (h : SeO M W v ob L) (hr : TnO M2 W v2 ot L2) (hf : FrB W.heap.size ot.toList W W') : SeO M W' v ob L := ⟨row_keep h.1 hr.1 (by decide) hf.blk, h.2.1, h.2.2⟩
theorem DkO.frBT {W W' : World} {M M2 : Nat} {v v2 : Value} {ob ot : Option Nat} {L : List DkE} {L2 : List TnE} (h : DkO M W v ob L) (hr : TnO M2 W v2 ot L2) (hf : FrB W.heap.size ot.toList W W') : DkO M W' v ob L := ⟨row_keep h.1 hr.1 (by decide) hf.blk, h.2.1, h.2.2⟩
theorem Blk.frBT {W W' : World} {M2 n0 : Nat} {v2 : Value} {ot : Option Nat} {cs : Array Value} {t : TypeId} {L2 : List TnE} (h : Blk W n0 cs t) (hr : TnO M2 W v2 ot L2) (hf : FrB W.heap.size ot.toList W W') (ht : t ≠ 54) : Blk W' n0 cs t := (hf.blk n0 h.lt (fun g e => by subst e; exact row_blk_ne hr.1 h ht)).trans h
theorem TnO.blkMap {W : World} {M2 b g : Nat} {v2 : Value} {L2 : List TnE} {κ : Type} [DecidableEq κ] {enc : κ → Value} {F : κ → Int} (hr : TnO M2 W v2 (some g) L2) (h : MapT W b enc F) : b ≠ g := by
  intro e
  subst e
  obtain ⟨L, c, h1, _⟩ := h
  rcases hr.1.cases with ⟨he, _⟩ | ⟨g1, cap, cur, he, _, h3, _⟩
  · cases he
  · obtain rfl := Option.some.inj he
    exact absurd (h3.symm.trans h1) (by simp)
theorem MapT.frBT {W W' : World} {M2 b : Nat} {v2 : Value} {ot : Option Nat} {L2 : List TnE} {κ : Type} [DecidableEq κ] {enc : κ → Value} {F : κ → Int} (h : MapT W b enc F) (hr : TnO M2 W v2 ot L2) (hf : FrB W.heap.size ot.toList W W') : MapT W' b enc F := h.congr (hf.blk b h.lt (fun g e => by subst e; exact hr.blkMap h))
/-- the first k of a list, mapped -/
def mapK {α : Type} (f : α → α) (L : List α) (k : Nat) : List α := (L.take k).map f ++ L.drop k
theorem mapK_zero {α : Type} (f : α → α) (L : List α) : mapK f L 0 = L := by simp [mapK]
theorem mapK_len {α : Type} (f : α → α) (L : List α) (k : Nat) (hk : k ≤ L.length) : (mapK f L k).length = L.length := by simp [mapK]; omega
theorem mapK_end {α : Type} (f : α → α) (L : List α) : mapK f L L.length = L.map f := by simp [mapK]
theorem mapK_at {α : Type} (f : α → α) (L : List α) (k : Nat) (x : α) (h : L[k]? = some x) : (mapK f L k)[k]? = some x := by
  have hk := (List.getElem?_eq_some_iff.1 h).1
  unfold mapK
  rw [List.getElem?_append_right (by simp; omega)]
  simp only [List.length_map, List.length_take]
  rw [show k - min k L.length = 0 by omega, List.getElem?_drop, Nat.add_zero, h]
theorem mapK_succ {α : Type} (f : α → α) (L : List α) (k : Nat) (x : α) (h : L[k]? = some x) : mapK f L (k + 1) = (mapK f L k).set k (f x) := by
  have hk := (List.getElem?_eq_some_iff.1 h).1
  have hx : L[k] = x := by have := List.getElem?_eq_getElem hk; rw [this] at h; exact Option.some.inj h
  unfold mapK
  rw [List.take_add_one, h, List.map_append, List.drop_eq_getElem_cons hk, hx]
  rw [List.set_append_right _ _ (by simp; omega)]
  simp only [List.length_map, List.length_take]
  rw [show k - min k L.length = 0 by omega]
  simp
theorem set_id {α : Type} : ∀ (L : List α) (k : Nat) (x : α), L[k]? = some x → L.set k x = L
  | [], _, _, h => by simp at h
  | y :: r, 0, x, h => by simp at h; subst h; rfl
  | y :: r, k + 1, x, h => by simp at h; simp [set_id r k x h]
theorem creditS_bd (b rate burst out ticks : Int) : 0 ≤ creditS b rate burst out ticks ∧ creditS b rate burst out ticks ≤ 1000000000 := by
  have h := (within_bd rate 1000000 (by omega))
  have h2 := (within_bd ticks 1099511627776 (by omega))
  have h3 := prod_bd rate ticks
  have hfin : creditS b rate burst out ticks = cut (moreS b (within rate 1000000 * within ticks 1099511627776)) burst out := (cut_more _ _ _ _ h3.1).symm
  rw [hfin]
  unfold cut
  have := room_bd burst out
  unfold within
  omega
theorem FrB.mono0 {n n' : Nat} {l : List Nat} {a b : World} (h : FrB n' l a b) (hn : n ≤ n') : FrB n l a b := ⟨h.os, h.tape, h.output, h.size, fun i hi hm => h.block i (by omega) hm⟩
end Go.Proofs.Ytfgnjpdlchimpaa
namespace Go.Proofs.Ytfgnjpdlchimpaa
open Go.RowKit
set_option linter.unusedSimpArgs false
set_option linter.unusedVariables false

theorem chkF_mono : ∀ (L : List TnE) (a b : Int), chkF a L = true → b ≤ a → chkF b L = true
  | [], _, _, _, _ => rfl
  | y :: r, a, b, h, hb => by
    unfold chkF at h ⊢
    simp only [Bool.and_eq_true, decide_eq_true_eq] at h ⊢
    exact ⟨⟨by omega, h.1.2⟩, h.2⟩
theorem chkF_filter (p : TnE → Bool) : ∀ (L : List TnE) (a : Int), chkF a L = true → chkF a (L.filter p) = true
  | [], _, _ => rfl
  | y :: r, a, h => by
    have h0 := h
    unfold chkF at h0
    simp only [Bool.and_eq_true, decide_eq_true_eq] at h0
    have ih := chkF_filter p r y.id h0.2
    rw [List.filter_cons]
    split
    · unfold chkF
      simp only [Bool.and_eq_true, decide_eq_true_eq]
      exact ⟨⟨h0.1.1, h0.1.2⟩, ih⟩
    · exact chkF_mono _ _ _ ih (by omega)
theorem fnd_mem {L : List TnE} {key : Int} {y : TnE} (h : fnd key L = some y) : y ∈ L ∧ y.id = key := ⟨List.mem_of_find?_eq_some h, by have := List.find?_some h; simpa using this⟩
theorem fnd_is {L : List TnE} {key : Int} {y : TnE} (hy : y ∈ L) (he : y.id = key) : (fnd key L).isSome = true := by
  unfold fnd
  rw [List.find?_isSome]
  exact ⟨y, hy, by simpa using he⟩
theorem outL_pos : ∀ (L : List LeE) (x : LeE), sizeB L → x ∈ L → 0 < outL L x.tenant
  | [], x, _, h => absurd h (by simp)
  | y :: r, x, hz, h => by
    have hr := outL_bd r x.tenant (fun z hz' => hz z (by simp [hz']))
    have hy := hz y (by simp)
    unfold outL
    rcases List.mem_cons.1 h with rfl | h
    · rw [if_pos rfl]; omega
    · have := outL_pos r x (fun z hz' => hz z (by simp [hz'])) h
      split <;> omega
def keepS (ls : List LeE) (x : TnE) : Bool := !(x.gone && decide (outL ls x.id ≤ 0))
theorem mayT_id {x : TnE} (h : mayT x = true) : 1 ≤ x.id ∧ x.id ≤ 16 := by
  unfold mayT idB at h
  simp only [Bool.and_eq_true, decide_eq_true_eq] at h
  exact h.1.1.1
theorem chk_may {L : List TnE} (h : chk L = true) (x : TnE) (hx : x ∈ L) : mayT x = true := by
  have hgo : ∀ (L : List TnE) (a : Int), chkF a L = true → ∀ z ∈ L, mayT z = true := by
    intro L
    induction L with
    | nil => intro _ _ z hz; simp at hz
    | cons y r ih =>
      intro a h z hz
      unfold chkF at h
      simp only [Bool.and_eq_true, decide_eq_true_eq] at h
      rcases List.mem_cons.1 hz with rfl | hz
      · exact h.1.2
      · exact ih y.id h.2 z hz
  exact hgo L 0 h x hx
theorem swL_keep {ls : List LeE} {L : List TnE} (h : chk L = true) : swL 16 (fun k => outL ls ((k : Int) + 1)) L = L.filter (keepS ls) := by
  unfold swL
  rw [h, if_pos rfl]
  refine List.filter_congr fun x hx => ?_
  have hi := mayT_id (chk_may h x hx)
  unfold swB outN keepS
  rw [if_pos (by omega)]
  have : (((x.id - 1).toNat : Nat) : Int) + 1 = x.id := by omega
  show (!(x.gone && decide (outL ls ((((x.id - 1).toNat : Nat) : Int) + 1) ≤ 0))) = _
  rw [this]
theorem swept_eq {s : StE} (h : chk s.ts = true) : sweptS s = ⟨s.term, s.stamp, s.next, s.ts.filter (keepS s.ls), s.ls, s.ss, s.ds⟩ := by
  unfold sweptS
  rw [swL_keep h]
theorem lesR_ts : ∀ (L : List LeE) (ts ts' : List TnE) (next last : Int), (∀ x ∈ L, (fndC x.tenant ts).isSome = true → (fndC x.tenant ts').isSome = true) → lesR ts next last L = true → lesR ts' next last L = true
  | [], _, _, _, _, _, _ => rfl
  | y :: r, ts, ts', next, last, hf, h => by
    unfold lesR leMay at h ⊢
    simp only [Bool.and_eq_true, decide_eq_true_eq] at h ⊢
    have h1 := hf y (by simp) h.1.2.1.1.1.1.1.1
    exact ⟨⟨h.1.1, ⟨⟨⟨⟨⟨⟨h1, h.1.2.1.1.1.1.1.2⟩, h.1.2.1.1.1.1.2⟩, h.1.2.1.1.1.2⟩, h.1.2.1.1.2⟩, h.1.2.1.2⟩, h.1.2.2⟩⟩, lesR_ts r ts ts' next y.id (fun x hx => hf x (by simp [hx])) h.2⟩
theorem fndC_eq {L : List TnE} (key : Int) (h : chk L = true) : fndC key L = fnd key L := by unfold fndC; rw [h]; rfl
theorem lesR_may : ∀ (L : List LeE) (ts : List TnE) (next last : Int), lesR ts next last L = true → ∀ x ∈ L, (fndC x.tenant ts).isSome = true
  | [], _, _, _, _ => fun x h => absurd h (by simp)
  | y :: r, ts, next, last, h => by
    unfold lesR leMay at h
    simp only [Bool.and_eq_true, decide_eq_true_eq] at h
    intro x hx
    rcases List.mem_cons.1 hx with rfl | hx
    · exact h.1.2.1.1.1.1.1.1
    · exact lesR_may r ts next y.id h.2 x hx
/-- what a state that may be bears -/
structure VS (s : StE) : Prop where
  ck : chk s.ts = true
  le : lesR s.ts s.next 0 s.ls = true
  len : s.ls.length ≤ 64
  n1 : 1 ≤ s.next
  n2 : s.next ≤ 1099511627776
  cap : capB s.ls s.ts = true
theorem vs_of {s : StE} (h : chkS s = true) : VS s := by
  obtain ⟨h1, h2, h3⟩ := chkS_parts h
  exact ⟨h1, lesB_R h2, (lesB_next h2).1, (lesB_next h2).2.1, (lesB_next h2).2.2, h3⟩
theorem VS.chk {s : StE} (h : VS s) : chkS s = true := by
  unfold chkS lesB
  rw [h.ck, h.le, h.cap]
  simp only [Bool.true_and, Bool.and_true, Bool.and_eq_true, decide_eq_true_eq]
  exact ⟨⟨h.len, h.n1⟩, h.n2⟩
theorem VS.size {s : StE} (h : VS s) : sizeB s.ls := lesR_size _ _ _ _ h.le
theorem cap_at {ls : List LeE} {ts : List TnE} (h : capB ls ts = true) (x : TnE) (hx : x ∈ ts) : 0 < x.bkt → x.bkt + 1000 * outL ls x.id ≤ 1000 * x.burst := by
  unfold capB at h
  have := List.all_eq_true.1 h x hx
  unfold capT at this
  simp at this
  intro hb
  rcases this with h9 | h9
  · omega
  · exact h9
theorem cap_of {ls : List LeE} {ts : List TnE} (h : ∀ x ∈ ts, 0 < x.bkt → x.bkt + 1000 * outL ls x.id ≤ 1000 * x.burst) : capB ls ts = true := by
  unfold capB
  refine List.all_eq_true.2 fun x hx => ?_
  have h9 := h x hx
  unfold capT
  simp
  by_cases hb : 0 < x.bkt
  · exact .inr (h9 hb)
  · exact .inl (by omega)
theorem VS.swept {s : StE} (h : VS s) : VS (sweptS s) := by
  rw [swept_eq h.ck]
  have hc := chkF_filter (keepS s.ls) s.ts 0 h.ck
  refine ⟨hc, ?_, h.len, h.n1, h.n2, cap_of fun x hx => cap_at h.cap x (List.mem_filter.1 hx).1⟩
  refine lesR_ts _ _ _ _ _ (fun x hx hs => ?_) h.le
  rw [fndC_eq _ h.ck] at hs
  rw [fndC_eq _ hc]
  obtain ⟨y, hy⟩ := Option.isSome_iff_exists.1 hs
  obtain ⟨h1, h2⟩ := fnd_mem hy
  refine fnd_is (y := y) (List.mem_filter.2 ⟨h1, ?_⟩) h2
  have := outL_pos s.ls x h.size hx
  unfold keepS
  rw [h2]
  have hn : ¬ outL s.ls x.tenant ≤ 0 := by omega
  simp [hn]
theorem swept_idem {s : StE} (h : VS s) : sweptS (sweptS s) = sweptS s := by
  have hv := h.swept
  rw [swept_eq hv.ck, swept_eq h.ck]
  simp only [List.filter_filter, Bool.and_self]
theorem outL_le_filter (p : LeE → Bool) : ∀ (L : List LeE) (t : Int), sizeB L → outL (L.filter p) t ≤ outL L t
  | [], _, _ => Int.le_refl _
  | y :: r, t, hz => by
    have ih := outL_le_filter p r t (fun z hz' => hz z (by simp [hz']))
    have hy := hz y (by simp)
    rw [List.filter_cons]
    split
    · unfold outL; split <;> omega
    · rw [show outL (y :: r) t = (if y.tenant = t then y.size - y.spent else 0) + outL r t from rfl]
      split <;> omega
theorem outL_le_spL (le sp : Int) : ∀ (L : List LeE) (t : Int), (∀ x ∈ L, x.id = le → x.spent ≤ sp) → outL (spL le sp L) t ≤ outL L t
  | [], _, _ => Int.le_refl _
  | y :: r, t, h => by
    have ih := outL_le_spL le sp r t (fun z hz => h z (by simp [hz]))
    have hy := h y (by simp)
    have hl : spL le sp (y :: r) = (if y.id = le then ⟨y.id, y.tenant, y.shaper, y.epoch, y.number, y.size, sp⟩ else y) :: spL le sp r := rfl
    rw [hl]
    unfold outL
    by_cases he : y.id = le
    · rw [if_pos he]
      have := hy he
      simp only
      split <;> omega
    · rw [if_neg he]
      omega
theorem lesR_mono : ∀ (L : List LeE) (ts : List TnE) (next a b : Int), lesR ts next a L = true → b ≤ a → lesR ts next b L = true
  | [], _, _, _, _, _, _ => rfl
  | y :: r, ts, next, a, b, h, hb => by
    unfold lesR at h ⊢
    simp only [Bool.and_eq_true, decide_eq_true_eq] at h ⊢
    exact ⟨⟨⟨by omega, h.1.1.2⟩, h.1.2⟩, h.2⟩
theorem lesR_filter (p : LeE → Bool) : ∀ (L : List LeE) (ts : List TnE) (next a : Int), lesR ts next a L = true → lesR ts next a (L.filter p) = true
  | [], _, _, _, _ => rfl
  | y :: r, ts, next, a, h => by
    have h0 := h
    unfold lesR at h0
    simp only [Bool.and_eq_true, decide_eq_true_eq] at h0
    have ih := lesR_filter p r ts next y.id h0.2
    rw [List.filter_cons]
    split
    · unfold lesR
      simp only [Bool.and_eq_true, decide_eq_true_eq]
      exact ⟨h0.1, ih⟩
    · exact lesR_mono _ _ _ _ _ ih (by omega)
theorem lesR_spL (le sp : Int) : ∀ (L : List LeE) (ts : List TnE) (next a : Int), (∀ x ∈ L, x.id = le → 0 ≤ sp ∧ sp < x.size) → lesR ts next a L = true → lesR ts next a (spL le sp L) = true
  | [], _, _, _, _, _ => rfl
  | y :: r, ts, next, a, hs, h => by
    have h0 := h
    unfold lesR at h0
    simp only [Bool.and_eq_true, decide_eq_true_eq] at h0
    have ih := lesR_spL le sp r ts next y.id (fun z hz => hs z (by simp [hz])) h0.2
    have hl : spL le sp (y :: r) = (if y.id = le then ⟨y.id, y.tenant, y.shaper, y.epoch, y.number, y.size, sp⟩ else y) :: spL le sp r := rfl
    rw [hl]
    by_cases he : y.id = le
    · rw [if_pos he]
      have hsp := hs y (by simp) he
      have hm := h0.1.2
      unfold leMay at hm
      simp only [Bool.and_eq_true, decide_eq_true_eq] at hm
      unfold lesR leMay
      simp only [Bool.and_eq_true, decide_eq_true_eq]
      exact ⟨⟨h0.1.1, ⟨⟨hm.1.1, hsp.1⟩, hsp.2⟩⟩, ih⟩
    · rw [if_neg he]
      unfold lesR
      simp only [Bool.and_eq_true, decide_eq_true_eq]
      exact ⟨h0.1, ih⟩
/-- other leases, of which no more is out -/
theorem VS.leases {s : StE} (h : VS s) (L : List LeE) (h1 : lesR s.ts s.next 0 L = true) (h2 : L.length ≤ 64) (h3 : ∀ t, outL L t ≤ outL s.ls t) : VS ⟨s.term, s.stamp, s.next, s.ts, L, s.ss, s.ds⟩ :=
  ⟨h.ck, h1, h2, h.n1, h.n2, cap_of fun x hx hb => by have := cap_at h.cap x hx hb; have := h3 x.id; show x.bkt + 1000 * outL L x.id ≤ _; omega⟩
theorem lease_uniq {s : StE} (h : VS s) {le : Int} {x : LeE} (hx : fndL le s.ls = some x) : ∀ y ∈ s.ls, y.id = le → y = x := by
  have hgo : ∀ (L : List LeE) (a : Int), lesR s.ts s.next a L = true → ∀ y ∈ L, ∀ z, fndL y.id L = some z → y = z := by
    intro L
    induction L with
    | nil => intro _ _ y hy; simp at hy
    | cons q r ih =>
      intro a hl y hy z hz
      have hl0 := hl
      unfold lesR at hl0
      simp only [Bool.and_eq_true, decide_eq_true_eq] at hl0
      have hgt := lesR_gt r s.ts s.next q.id hl0.2
      unfold fndL at hz
      rcases List.mem_cons.1 hy with rfl | hy
      · rw [List.find?_cons_of_pos (by simp)] at hz
        exact Option.some.inj hz
      · have := hgt y hy
        rw [List.find?_cons_of_neg (by simp; omega)] at hz
        exact ih q.id hl0.2 y hy z hz
  intro y hy he
  subst he
  exact hgo s.ls 0 h.le y hy x hx
theorem fndL_mem {L : List LeE} {le : Int} {x : LeE} (hx : fndL le L = some x) : x ∈ L ∧ x.id = le := ⟨List.mem_of_find?_eq_some hx, by have := List.find?_some hx; simpa using this⟩
theorem spL_len (le sp : Int) (L : List LeE) : (spL le sp L).length = L.length := by simp [spL]
/-- a report that isn't closed leaves a state that may be -/
theorem VS.late {s : StE} (h : VS s) {le sp : Int} {x : LeE} (hx : fndL le s.ls = some x) (h1 : x.spent ≤ sp) : VS (rpL s le sp false) := by
  obtain ⟨hm, hk⟩ := fndL_mem hx
  have hu := lease_uniq h hx
  have hsx := h.size x hm
  unfold rpL
  rw [hx]
  simp only [Option.getD_some]
  by_cases hs : sp < x.size
  · rw [if_pos ⟨trivial, hs⟩]
    refine h.leases _ (lesR_spL le sp _ _ _ _ (fun y hy he => by rw [hu y hy he]; omega) h.le) (by rw [spL_len]; exact h.len) (fun t => outL_le_spL le sp _ t (fun y hy he => by rw [hu y hy he]; exact h1))
  · rw [if_neg (by rintro ⟨_, h9⟩; exact hs h9)]
    simp only [Bool.false_eq_true, if_false]
    exact h.leases _ (lesR_filter _ _ _ _ _ h.le) (Nat.le_trans (List.length_filter_le _ _) h.len) (fun t => outL_le_filter _ _ t h.size)
theorem rpS_go {s : StE} (h : VS s) {sh ep le sp : Int} {cl : Bool} (he : rpE s sh ep le sp = 0) : rpS s sh ep le sp cl = sweptS (rpL s le sp cl) := by unfold rpS; rw [h.chk, he]; rfl
theorem rpS_no {s : StE} (h : VS s) {sh ep le sp : Int} {cl : Bool} (he : rpE s sh ep le sp ≠ 0) : rpS s sh ep le sp cl = sweptS s := by unfold rpS; rw [h.chk, if_pos rfl, if_neg he]
theorem fndL_spL (le sp : Int) : ∀ (L : List LeE) (x : LeE), fndL le L = some x → fndL le (spL le sp L) = some ⟨x.id, x.tenant, x.shaper, x.epoch, x.number, x.size, sp⟩
  | [], x, h => by simp [fndL] at h
  | y :: r, x, h => by
    have hl : spL le sp (y :: r) = (if y.id = le then ⟨y.id, y.tenant, y.shaper, y.epoch, y.number, y.size, sp⟩ else y) :: spL le sp r := rfl
    rw [hl]
    unfold fndL at h ⊢
    by_cases he : y.id = le
    · rw [List.find?_cons_of_pos (by simp [he])] at h
      obtain rfl := Option.some.inj h
      rw [if_pos he, List.find?_cons_of_pos (by simp [he])]
    · rw [List.find?_cons_of_neg (by simp [he])] at h
      rw [if_neg he, List.find?_cons_of_neg (by simp [he])]
      exact fndL_spL le sp r x h
theorem fndL_wo (le : Int) (L : List LeE) : fndL le (wo le L) = none := by
  unfold fndL wo
  refine List.find?_eq_none.2 fun x hx => ?_
  have := (List.mem_filter.1 hx).2
  simpa using this
theorem spL_spL (le a b : Int) (L : List LeE) : spL le b (spL le a L) = spL le b L := by
  unfold spL
  rw [List.map_map]
  congr 1
  funext y
  by_cases he : y.id = le
  · simp [he]
  · simp [he]
theorem wo_spL (le a : Int) : ∀ (L : List LeE), wo le (spL le a L) = wo le L
  | [] => rfl
  | y :: r => by
    have ih := wo_spL le a r
    have hl : spL le a (y :: r) = (if y.id = le then ⟨y.id, y.tenant, y.shaper, y.epoch, y.number, y.size, a⟩ else y) :: spL le a r := rfl
    rw [hl]
    unfold wo at ih ⊢
    by_cases he : y.id = le
    · rw [if_pos he, List.filter_cons_of_neg (by simp [he]), List.filter_cons_of_neg (by simp [he]), ih]
    · rw [if_neg he, List.filter_cons_of_pos (by simp [he]), List.filter_cons_of_pos (by simp [he]), ih]
/-- one report behind another -/
theorem late_step {s : StE} (h : VS s) {sh ep le a b : Int} {x : LeE} (hx : fndL le s.ls = some x) (h2 : x.shaper = sh) (h3 : x.epoch = ep) (ha : x.spent ≤ a) (ha2 : a ≤ x.size) (hb : x.spent ≤ b) (hb2 : b ≤ x.size) :
    rpS (sweptS (rpL s le a false)) sh ep le b false = sweptS (rpL s le (max a b) false) := by
  have hva := h.late (sp := a) hx ha
  have hvs := hva.swept
  have hck := hva.ck
  by_cases hs : a < x.size
  · have hrl : rpL s le a false = ⟨s.term, s.stamp, s.next, s.ts, spL le a s.ls, s.ss, s.ds⟩ := by unfold rpL; rw [hx]; simp only [Option.getD_some]; rw [if_pos ⟨trivial, hs⟩]
    have hf : fndL le (sweptS (rpL s le a false)).ls = some ⟨x.id, x.tenant, x.shaper, x.epoch, x.number, x.size, a⟩ := by rw [hrl]; exact fndL_spL le a s.ls x hx
    have he := rpE_at sh ep le b hvs.chk hf
    rw [if_pos ⟨h2, h3⟩] at he
    by_cases hab : b < a
    · rw [if_pos (.inl hab)] at he
      rw [rpS_no hvs (by rw [he]; decide), swept_idem hva, show max a b = a by omega]
    · rw [if_neg (by simp only; omega)] at he
      rw [rpS_go hvs he, show max a b = b by omega]
      have hvb := h.late (sp := b) hx hb
      have hle : ∀ t, outL (rpL s le b false).ls t ≤ outL (spL le a s.ls) t := fun t => by
        unfold rpL
        rw [hx]
        simp only [Option.getD_some]
        split
        · show outL (spL le b s.ls) t ≤ _
          rw [← spL_spL le a b]
          refine outL_le_spL le b _ t fun y hy he => ?_
          obtain ⟨z, hz, rfl⟩ := List.mem_map.1 hy
          by_cases hzl : z.id = le
          · rw [if_pos hzl]; show a ≤ b; omega
          · rw [if_neg hzl] at he; exact absurd he hzl
        · show outL (wo le s.ls) t ≤ _
          rw [← wo_spL le a]
          have hsz := hva.size
          rw [hrl] at hsz
          exact outL_le_filter _ _ t hsz
      have e1 : rpL (sweptS (rpL s le a false)) le b false = ⟨s.term, s.stamp, s.next, s.ts.filter (keepS (spL le a s.ls)), (rpL s le b false).ls, s.ss, s.ds⟩ := by
        rw [swept_eq hck, hrl]
        unfold rpL
        simp only
        rw [hx, fndL_spL le a s.ls x hx]
        simp only [Option.getD_some, Bool.false_eq_true, if_false]
        by_cases hbs : b < x.size
        · rw [if_pos ⟨trivial, hbs⟩, if_pos ⟨trivial, hbs⟩, spL_spL]
        · rw [if_neg (by rintro ⟨_, h9⟩; exact hbs h9), if_neg (by rintro ⟨_, h9⟩; exact hbs h9), wo_spL]
      have hts : (rpL s le b false).ts = s.ts := by unfold rpL; simp only; split <;> simp
      have e2 : rpL s le b false = ⟨s.term, s.stamp, s.next, s.ts, (rpL s le b false).ls, s.ss, s.ds⟩ := by unfold rpL; simp only; split <;> simp
      have hck2 : chk (s.ts.filter (keepS (spL le a s.ls))) = true := chkF_filter _ _ _ h.ck
      rw [e1, swept_eq (s := ⟨s.term, s.stamp, s.next, s.ts.filter (keepS (spL le a s.ls)), (rpL s le b false).ls, s.ss, s.ds⟩) hck2, e2, swept_eq (s := ⟨s.term, s.stamp, s.next, s.ts, (rpL s le b false).ls, s.ss, s.ds⟩) h.ck]
      simp only [List.filter_filter]
      congr 1
      refine List.filter_congr fun y hy => ?_
      have := hle y.id
      unfold keepS
      cases hg : y.gone
      · simp
      · by_cases ho : outL (rpL s le b false).ls y.id ≤ 0
        · simp [ho]
        · have : ¬ outL (spL le a s.ls) y.id ≤ 0 := by omega
          simp [ho, this]
  · have hrl : rpL s le a false = ⟨s.term, s.stamp, s.next, s.ts, wo le s.ls, s.ss, s.ds⟩ := by
      unfold rpL; rw [hx]; simp only [Option.getD_some]; rw [if_neg (by rintro ⟨_, h9⟩; exact hs h9)]; simp
    have hf : fndL le (sweptS (rpL s le a false)).ls = none := by rw [hrl]; exact fndL_wo le s.ls
    have he := rpE_no sh ep le b hvs.chk hf
    rw [rpS_no hvs (by rw [he]; decide), swept_idem hva, show max a b = a by omega]
theorem late_first {s : StE} (h : VS s) {sh ep le b : Int} {x : LeE} (hx : fndL le s.ls = some x) (h2 : x.shaper = sh) (h3 : x.epoch = ep) (hb : x.spent ≤ b) (hb2 : b ≤ x.size) : rpE s sh ep le b = 0 ∧ rpS s sh ep le b false = sweptS (rpL s le b false) := by
  have he := rpE_at sh ep le b h.chk hx
  rw [if_pos ⟨h2, h3⟩, if_neg (by omega)] at he
  exact ⟨he, rpS_go h he⟩
theorem late_same {s : StE} (h : VS s) {le : Int} {x : LeE} (hx : fndL le s.ls = some x) : rpL s le x.spent false = s := by
  obtain ⟨hm, hk⟩ := fndL_mem hx
  have hsx := h.size x hm
  obtain ⟨i, hi, he⟩ := List.mem_iff_getElem.1 hm
  have hxi : s.ls[i]? = some x := by rw [List.getElem?_eq_getElem hi, he]
  unfold rpL
  rw [hx]
  simp only [Option.getD_some]
  rw [if_pos ⟨trivial, by omega⟩, ← hk, spL_set s.ls s.ts s.next 0 x.spent i x h.le hxi, set_id _ _ _ hxi]
theorem credit_none {s : StE} (h : VS s) : credS s 0 = sweptS s := by
  unfold credS
  rw [h.chk, if_pos rfl]
  have : s.ts.map (credT s.ls 0) = s.ts := by
    refine (List.map_congr_left fun t ht => ?_).trans (List.map_id _)
    have hm := chk_may h.ck t ht
    have hb := chkF_bd s.ts 0 h.ck t ht
    have hc := cap_at h.cap t ht
    have ho := outL_bd s.ls t.id h.size
    unfold credT
    split
    · rfl
    · have hcr : creditS t.bkt t.rate t.burst (outL s.ls t.id) 0 = t.bkt := by
        unfold creditS cut room
        have hw : within 0 1099511627776 = 0 := by decide
        rw [hw, Int.mul_zero]
        unfold within
        omega
      rw [hcr]
      rfl
  rw [this]
end Go.Proofs.Ytfgnjpdlchimpaa
namespace Go.Proofs.Ytfgnjpdlchimpaa
open Go.RowKit
set_option linter.unusedSimpArgs false
set_option linter.unusedVariables false

theorem SeV.fr {W W' : World} {v : Value} {L : List SeE} {N : Nat} {cs : Array Value} {t : TypeId} (h : SeV W v L) (hb : Blk W N cs t) (hf : Fr [N] W W') (hn : (decide (cs.size ≤ 6) || (decide (cs.size = 7) && (cs[3]?.map isSl).getD false)) = true := by rfl) : SeV W' v L := by
  obtain ⟨a, b, o, c, e, h⟩ := h
  refine ⟨a, b, o, c, e, ⟨h.le, h.max, fun hk => ⟨(h.at_ hk).1, by have := (h.at_ hk).2; have := hf.size; omega⟩, fun k hk => ?_, h.bd⟩⟩
  have hbl := (h.at_ (by omega)).2
  simp only [Bool.or_eq_true, Bool.and_eq_true, decide_eq_true_eq] at hn
  have hne : b ≠ N := by
    intro e
    subst e
    obtain ⟨h0, h1, h2, h3, h4, h5, h6⟩ := h.cell k hk
    rw [cell_at hb] at h6 h3
    have := (Array.getElem?_eq_some_iff.1 h6).1
    rcases hn with hn | hn
    · omega
    have ho : o + k * 7 + 3 = 3 := by omega
    rw [ho] at h3
    rw [h3] at hn
    exact absurd hn.2 (by simp [isSl])
  have hblk := hf.block b hbl (by simpa using hne)
  have hcell : ∀ j, W'.cell? ⟨b, j, none⟩ = W.cell? ⟨b, j, none⟩ := fun j => by unfold World.cell?; rw [hblk]
  have := h.cell k hk
  rw [hcell, hcell, hcell, hcell, hcell, hcell, hcell]
  exact this
theorem DkV.fr {W W' : World} {v : Value} {L : List DkE} {N : Nat} {cs : Array Value} {t : TypeId} (h : DkV W v L) (hb : Blk W N cs t) (hf : Fr [N] W W') (hn : cs.size ≤ 7) : DkV W' v L := by
  obtain ⟨a, b, o, c, e, h⟩ := h
  refine ⟨a, b, o, c, e, ⟨h.le, h.max, fun hk => ⟨(h.at_ hk).1, by have := (h.at_ hk).2; have := hf.size; omega⟩, fun k hk => ?_, h.bd⟩⟩
  have hbl := (h.at_ (by omega)).2
  have hne : b ≠ N := by
    intro e
    subst e
    obtain ⟨h0, h1, h2, h3, h4, h5, h6, h7⟩ := h.cell k hk
    rw [cell_at hb] at h7
    have := (Array.getElem?_eq_some_iff.1 h7).1
    omega
  have hblk := hf.block b hbl (by simpa using hne)
  have hcell : ∀ j, W'.cell? ⟨b, j, none⟩ = W.cell? ⟨b, j, none⟩ := fun j => by unfold World.cell?; rw [hblk]
  have := h.cell k hk
  rw [hcell, hcell, hcell, hcell, hcell, hcell, hcell, hcell]
  exact this
theorem SV.fr {W W' : World} {v : Value} {s : StE} {N : Nat} {a0 a1 a2 a3 a4 a5 a6 : Value} {t : TypeId} (h : SV W v s) (hb : Blk W N #[a0, a1, a2, a3, a4, a5, a6] t) (hf : Fr [N] W W') (h3 : isSl a3 = true) (hn : #[a0, a1, a2, a3, a4, a5, a6].toList.all isNB = true) : SV W' v s := by
  obtain ⟨vt, vl, vs, vd, e, h1, h2, h3', h4⟩ := h
  have hq : (decide ((#[a0, a1, a2, a3, a4, a5, a6] : Array Value).size ≤ 6) || (decide ((#[a0, a1, a2, a3, a4, a5, a6] : Array Value).size = 7) && (((#[a0, a1, a2, a3, a4, a5, a6] : Array Value)[3]?).map isSl).getD false)) = true := by simp [h3]
  exact ⟨vt, vl, vs, vd, e, h1.fr hb hf hn, h2.fr hb hf hq, h3'.fr hb hf hq, h4.fr hb hf (by simp)⟩
theorem rpL_few {s : StE} {le sp : Int} (h : fewS s) : fewS (rpL s le sp false) := by
  unfold rpL
  simp only [Bool.false_eq_true, if_false]
  split
  · exact ⟨h.1, by show (spL le sp s.ls).length ≤ 200; rw [spL_len]; exact h.2.1, h.2.2.1, h.2.2.2⟩
  · exact ⟨h.1, Nat.le_trans (List.length_filter_le _ _) h.2.1, h.2.2.1, h.2.2.2⟩
theorem swL_len (on : Nat) (T : Nat → Int) (L : List TnE) : (swL on T L).length ≤ L.length := by
  unfold swL
  split
  · exact List.length_filter_le _ _
  · exact Nat.le_refl _
theorem swept_few {s : StE} (h : fewS s) : fewS (sweptS s) := ⟨Nat.le_trans (swL_len _ _ _) h.1, h.2.1, h.2.2.1, h.2.2.2⟩
/-- where the reports lead -/
def LateI (s : StE) (x : LeE) (le most : Int) (t : StE) : Prop := (t = s ∧ most = x.spent) ∨ (t = sweptS (rpL s le most false) ∧ x.spent ≤ most ∧ most ≤ x.size)
theorem LateI.step {s : StE} (h : VS s) {x : LeE} {le most n : Int} {t : StE} (hx : fndL le s.ls = some x) (hI : LateI s x le most t) (h1 : x.spent ≤ n) (h2 : n ≤ x.size) : LateI s x le (if most < n then n else most) (rpS t x.shaper x.epoch le n false) := by
  have hm : (if most < n then n else most) = max most n := by split <;> omega
  rw [hm]
  rcases hI with ⟨rfl, rfl⟩ | ⟨rfl, h3, h4⟩
  · refine .inr ⟨?_, by omega, by omega⟩
    rw [(late_first h hx rfl rfl h1 h2).2, show max x.spent n = n by omega]
  · exact .inr ⟨late_step h hx rfl rfl h3 h4 h1 h2, by omega, by omega⟩
theorem LateI.few {s : StE} {x : LeE} {le most : Int} {t : StE} (hf : fewS s) (hI : LateI s x le most t) : fewS t := by
  rcases hI with ⟨rfl, _⟩ | ⟨rfl, _⟩
  · exact hf
  · exact swept_few (rpL_few hf)
theorem LateI.fin {s : StE} (h : VS s) {x : LeE} {le most : Int} {t : StE} (hx : fndL le s.ls = some x) (hI : LateI s x le most t) : rpE s x.shaper x.epoch le most = 0 ∧ credS t 0 = credS (rpS s x.shaper x.epoch le most false) 0 := by
  have hsx := h.size x (fndL_mem hx).1
  rcases hI with ⟨rfl, rfl⟩ | ⟨rfl, h3, h4⟩
  · obtain ⟨e1, e2⟩ := late_first h hx rfl rfl (Int.le_refl _) (by omega)
    refine ⟨e1, ?_⟩
    rw [e2, late_same h hx, credit_none h, credit_none h.swept, swept_idem h]
  · obtain ⟨e1, e2⟩ := late_first h hx rfl rfl h3 h4
    exact ⟨e1, by rw [e2]⟩
end Go.Proofs.Ytfgnjpdlchimpaa
namespace Go.Proofs.Ytfgnjpdlchimpaa
open Go.RowKit
set_option linter.unusedSimpArgs false
set_option linter.unusedVariables false

set_option maxRecDepth 100000 in
set_option maxHeartbeats 16000000 in
theorem credit_led (v : Value) (s : StE) (ticks : Int) (w : World) (h : SV w v s) (hf : fewS s) :
    Calls Try.prog 18 #[v, .int .i64 ticks] w fun e w' => ∃ v', e = .returned v' ∧ SV w' v' (credS s ticks) ∧ Below w.heap.size w w' := by
  have zl : ∀ u, (zeroValue 3).run Try.prog u = .ok (.int .i64 0) u := fun u => by kernel_rfl
  have HKW := Lib.hid (fun (X : World) (b : Nat) (G : Int → Int) (x : Int) (h : MapT X b (fun c : Int => Value.agg #[.int .i64 c]) G) => h.look key_whose Try.underlying63 (zl X) x)
  clear zl
  have HFEW := Lib.hid hf
  obtain ⟨f1, f2, f3, f4⟩ := hf
  obtain ⟨vt, vl, vs, vd, rfl, ht, hl, hs, hd⟩ := h
  obtain ⟨ta, tn, tc, rfl, Htn, tn1, tn2⟩ := ht.sh
  obtain ⟨la, ln, lc, rfl, Hln, ln1, ln2⟩ := hl.sh
  obtain ⟨sa, sn, sc, rfl, Hsn, sn1, sn2⟩ := hs.sh
  obtain ⟨da, dn, dc, rfl, Hdn, dn1, dn2⟩ := hd.sh
  have HT0 := Lib.hid ht
  have HL0 := Lib.hid hl
  have HS0 := Lib.hid hs
  have HD0 := Lib.hid hd
  have HT := Lib.hid ht
  have HL := Lib.hid hl
  have HS := Lib.hid hs
  have HD := Lib.hid hd
  clear ht hl hs hd
  rw [← Hln.out] at f2
  rw [← Htn.out] at f1
  have HSV : Hid (∀ W, TV W (.slice ta tn tc) s.ts → LeV W (.slice la ln lc) s.ls → SeV W (.slice sa sn sc) s.ss → DkV W (.slice da dn dc) s.ds → SV W (.agg #[.int .i64 s.term, .int .i64 s.stamp, .int .i64 s.next, .slice ta tn tc, .slice la ln lc, .slice sa sn sc, .slice da dn dc]) s) := Lib.hid (fun W h1 h2 h3 h4 => ⟨_, _, _, _, rfl, h1, h2, h3, h4⟩)
  have HCK := Lib.hid (fun W v (h : SV W v s) => checkS_any v s W h HFEW.out)
  have HTW := Lib.hid (fun W v (h : SV W v s) => twinO_any v s W h HFEW.out)
  obtain ⟨C, hC⟩ : ∃ C, C = chkS s := ⟨_, rfl⟩
  have HSZ := Lib.hid (fun h : C = true => lesB_size (s := s) (by rw [hC] at h; unfold chkS at h; simp only [Bool.and_eq_true] at h; exact h.1.2))
  rw [← hC] at HCK
  have HCE := Lib.hid hC
  clear hC
  obtain ⟨R, hR⟩ : ∃ R, R = credS s ticks := ⟨_, rfl⟩
  rw [← hR]
  unfold credS at hR
  rw [← HCE.out] at hR
  have HR9 := Lib.hid hR
  clear hR
  obtain ⟨F, hF⟩ : ∃ F : Nat → List TnE, F = mapK (credT s.ls ticks) s.ts := ⟨_, rfl⟩
  have HF0 : Hid (F 0 = s.ts) := Lib.hid (by rw [hF]; exact mapK_zero _ _)
  have HFL : Hid (∀ k, k ≤ tn → (F k).length = tn) := Lib.hid (fun k hk => by rw [hF, mapK_len _ _ _ (by rw [← Htn.out]; exact hk), ← Htn.out])
  have HFE : Hid (F tn = s.ts.map (credT s.ls ticks)) := Lib.hid (by rw [hF, Htn.out]; exact mapK_end _ _)
  have HFA : Hid (∀ k x, s.ts[k]? = some x → (F k)[k]? = some x) := Lib.hid (fun k x h => by rw [hF]; exact mapK_at _ _ _ _ h)
  have HFS : Hid (∀ k x, s.ts[k]? = some x → F (k + 1) = (F k).set k (credT s.ls ticks x)) := Lib.hid (fun k x h => by rw [hF]; exact mapK_succ _ _ _ _ h)
  clear hF
  have HB : Hid (Below w.heap.size w w) := Lib.hid (Below.refl _ _)
  have hmf : ∀ (fn : Fn) (first cap : Array Value) (w : World), (Instr.makeFunc fn first cap).run Try.prog w = .ok (.func fn first cap) w := fun _ _ _ _ => rfl
  go_enter_defers Try.func18, Try.ntmps18
  go_upto_region 1 with fail
  obtain ⟨N, hN⟩ : ∃ n0, n0 = w.heap.size := ⟨_, rfl⟩
  have HLON : Hid (w.heap.size ≤ N) := Lib.hid (by have := HB.out.size; omega)
  obtain ⟨W1, hA0⟩ : ∃ W0, W0 = w.alloc (.cells #[.int .i64 s.term, .int .i64 s.stamp, .int .i64 s.next, .slice ta tn tc, .slice la ln lc, .slice sa sn sc, .slice da dn dc] 27) := ⟨_, rfl⟩
  have hB : Below w.heap.size w W1 := by rw [hA0]; exact (Below.refl _ _).alloc (Nat.le_refl _) _
  have hS0 : W1.heap.size = N + 1 := by rw [hA0]; simp [← hN]
  have HR := Lib.hid (show Blk W1 N #[.int .i64 s.term, .int .i64 s.stamp, .int .i64 s.next, .slice ta tn tc, .slice la ln lc, .slice sa sn sc, .slice da dn dc] 27 by rw [hA0, hN]; exact blk_new _ _ _)
  replace HB := Lib.hid (HB.out.trans (hB.mono HB.out.size))
  replace HT := Lib.hid (HT0.out.below HB.out)
  replace HL := Lib.hid (HL0.out.below HB.out)
  replace HS := Lib.hid (HS0.out.below HB.out)
  replace HD := Lib.hid (HD0.out.below HB.out)
  clear hB
  obtain ⟨W2, hA1⟩ : ∃ W0, W0 = W1.alloc (.cells #[.int .i64 0, .int .i64 0, .int .i64 0, .slice none 0 0, .slice none 0 0, .slice none 0 0, .slice none 0 0] 27) := ⟨_, rfl⟩
  have hB : Below W1.heap.size W1 W2 := by rw [hA1]; exact (Below.refl _ _).alloc (Nat.le_refl _) _
  have hS1 : W2.heap.size = N + 2 := by rw [hA1]; simp [hS0]
  have HO := Lib.hid (show Blk W2 (N + 1) #[.int .i64 0, .int .i64 0, .int .i64 0, .slice none 0 0, .slice none 0 0, .slice none 0 0, .slice none 0 0] 27 by rw [hA1, ← hS0]; exact blk_new _ _ _)
  replace HB := Lib.hid (HB.out.trans (hB.mono HB.out.size))
  replace HT := Lib.hid (HT0.out.below HB.out)
  replace HL := Lib.hid (HL0.out.below HB.out)
  replace HS := Lib.hid (HS0.out.below HB.out)
  replace HD := Lib.hid (HD0.out.below HB.out)
  replace HR := Lib.hid (HR.out.step hB)
  clear hB
  have HSN := Lib.hid hS1
  rw [← hN, ← hA0, ← hA1]
  clear hA1 hA0 hN hS0 hS1
  have qR0 : W2.cell? ⟨N, 0, none⟩ = some (.int .i64 s.term) := cell_at HR.out 0
  have qR1 : W2.cell? ⟨N, 1, none⟩ = some (.int .i64 s.stamp) := cell_at HR.out 1
  have qR2 : W2.cell? ⟨N, 2, none⟩ = some (.int .i64 s.next) := cell_at HR.out 2
  have qR3 : W2.cell? ⟨N, 3, none⟩ = some (.slice ta tn tc) := cell_at HR.out 3
  have qR4 : W2.cell? ⟨N, 4, none⟩ = some (.slice la ln lc) := cell_at HR.out 4
  have qR5 : W2.cell? ⟨N, 5, none⟩ = some (.slice sa sn sc) := cell_at HR.out 5
  have qR6 : W2.cell? ⟨N, 6, none⟩ = some (.slice da dn dc) := cell_at HR.out 6
  have qRz : ∀ j, W2.frozen? ⟨N, j, none⟩ = false := fun j => free_at HR.out j
  have qRl : N < W2.heap.size := HR.out.lt
  have FOO := Lib.hid HO.out.lt
  have HB0L : Hid (w.heap.size ≤ W2.heap.size) := Lib.hid HB.out.size
  go_wp2_with fail
  go_at_call 36
  go_fit (HTW.out _ _ (HSV.out _ HT.out HL.out HS.out HD.out))
  rintro e W3 ⟨v2, rfl, hso, hB⟩
  clear qR0 qR1 qR2 qR3 qR4 qR5 qR6 qRz qRl
  replace HB := Lib.hid (HB.out.trans (hB.mono HB.out.size))
  replace HT := Lib.hid (HT0.out.below HB.out)
  replace HL := Lib.hid (HL0.out.below HB.out)
  replace HS := Lib.hid (HS0.out.below HB.out)
  replace HD := Lib.hid (HD0.out.below HB.out)
  replace HR := Lib.hid (HR.out.step hB)
  replace HO := Lib.hid (HO.out.step hB)
  clear hB
  obtain ⟨vt2, vl2, vs2, vd2, ot, ol, os, od, rfl, o1, o2, o3, o4⟩ := hso
  obtain ⟨b1, m1, k1, rfl, Hb1, x1, y1⟩ := o1.v.sh
  obtain ⟨b2, m2, k2, rfl, Hb2, x2, y2⟩ := o2.v.sh
  obtain ⟨b3, m3, k3, rfl, Hb3, x3, y3⟩ := o3.v.sh
  obtain ⟨b4, m4, k4, rfl, Hb4, x4, y4⟩ := o4.v.sh
  have O1 := Lib.hid o1
  have FO1 := Lib.hid (show (N + 1) < W2.heap.size from FOO.out)
  have O2 := Lib.hid o2
  have FO2 := Lib.hid (show (N + 1) < W2.heap.size from FOO.out)
  have O3 := Lib.hid o3
  have FO3 := Lib.hid (show (N + 1) < W2.heap.size from FOO.out)
  have O4 := Lib.hid o4
  have FO4 := Lib.hid (show (N + 1) < W2.heap.size from FOO.out)
  clear o1 o2 o3 o4
  have qO0 : W3.cell? ⟨(N + 1), 0, none⟩ = some (.int .i64 0) := cell_at HO.out 0
  have qO1 : W3.cell? ⟨(N + 1), 1, none⟩ = some (.int .i64 0) := cell_at HO.out 1
  have qO2 : W3.cell? ⟨(N + 1), 2, none⟩ = some (.int .i64 0) := cell_at HO.out 2
  have qO3 : W3.cell? ⟨(N + 1), 3, none⟩ = some (.slice none 0 0) := cell_at HO.out 3
  have qO4 : W3.cell? ⟨(N + 1), 4, none⟩ = some (.slice none 0 0) := cell_at HO.out 4
  have qO5 : W3.cell? ⟨(N + 1), 5, none⟩ = some (.slice none 0 0) := cell_at HO.out 5
  have qO6 : W3.cell? ⟨(N + 1), 6, none⟩ = some (.slice none 0 0) := cell_at HO.out 6
  have qOz : ∀ j, W3.frozen? ⟨(N + 1), j, none⟩ = false := fun j => free_at HO.out j
  have qOl : (N + 1) < W3.heap.size := HO.out.lt
  go_upto_region 2 with fail
  clear qO0 qO1 qO2 qO3 qO4 qO5 qO6 qOz qOl
  obtain ⟨LS, hLS⟩ : ∃ L : List Value, L = [.int .i64 s.term, .int .i64 s.stamp, .int .i64 s.next, .slice b1 m1 k1, .slice b2 m2 k2, .slice b3 m3 k3, .slice b4 m4 k4] := ⟨_, rfl⟩
  obtain ⟨W4, hWS⟩ : ∃ WS, WS = W3.setCells (N + 1) 0 LS := ⟨_, rfl⟩
  have hch := hWS
  rw [hLS] at hch
  simp only [World.setCells, Nat.zero_add, Nat.reduceAdd] at hch
  rw [← hch]
  clear hch
  have hkS := stC_blk HO.out LS (by rw [hLS]; rfl)
  have hfS := stC_fr (N + 1) LS 0 W3
  rw [← hWS] at hkS hfS
  rw [hLS] at hkS
  replace HB := Lib.hid (HB.out.trans (hfS.below HB.out.size (by have := HLON.out; simp; try omega)))
  replace HT := Lib.hid (HT0.out.below HB.out)
  replace HL := Lib.hid (HL0.out.below HB.out)
  replace HS := Lib.hid (HS0.out.below HB.out)
  replace HD := Lib.hid (HD0.out.below HB.out)
  replace HR := Lib.hid (show Blk W4 N #[.int .i64 s.term, .int .i64 s.stamp, .int .i64 s.next, .slice ta tn tc, .slice la ln lc, .slice sa sn sc, .slice da dn dc] 27 from (hfS.block _ HR.out.lt (by simp; try omega)).trans HR.out)
  replace O1 := Lib.hid (O1.out.fr hfS (by have := FO1.out; omega))
  replace O2 := Lib.hid (O2.out.fr hfS (by have := FO2.out; omega))
  replace O3 := Lib.hid (O3.out.fr hfS (by have := FO3.out; omega))
  replace O4 := Lib.hid (O4.out.fr hfS (by have := FO4.out; omega))
  replace HO := Lib.hid (show Blk W4 (N + 1) #[.int .i64 s.term, .int .i64 s.stamp, .int .i64 s.next, .slice b1 m1 k1, .slice b2 m2 k2, .slice b3 m3 k3, .slice b4 m4 k4] 27 from hkS)
  clear hWS hLS hkS hfS
  have qR0 : W4.cell? ⟨N, 0, none⟩ = some (.int .i64 s.term) := cell_at HR.out 0
  have qR1 : W4.cell? ⟨N, 1, none⟩ = some (.int .i64 s.stamp) := cell_at HR.out 1
  have qR2 : W4.cell? ⟨N, 2, none⟩ = some (.int .i64 s.next) := cell_at HR.out 2
  have qR3 : W4.cell? ⟨N, 3, none⟩ = some (.slice ta tn tc) := cell_at HR.out 3
  have qR4 : W4.cell? ⟨N, 4, none⟩ = some (.slice la ln lc) := cell_at HR.out 4
  have qR5 : W4.cell? ⟨N, 5, none⟩ = some (.slice sa sn sc) := cell_at HR.out 5
  have qR6 : W4.cell? ⟨N, 6, none⟩ = some (.slice da dn dc) := cell_at HR.out 6
  have qRz : ∀ j, W4.frozen? ⟨N, j, none⟩ = false := fun j => free_at HR.out j
  have qRl : N < W4.heap.size := HR.out.lt
  go_wp2_with fail
  go_at_call 16
  go_fit (HCK.out _ _ (HSV.out _ HT.out HL.out HS.out HD.out))
  rintro e W5 ⟨rfl, hB⟩
  clear qR0 qR1 qR2 qR3 qR4 qR5 qR6 qRz qRl
  replace HB := Lib.hid (HB.out.trans (hB.mono HB.out.size))
  replace HT := Lib.hid (HT0.out.below HB.out)
  replace HL := Lib.hid (HL0.out.below HB.out)
  replace HS := Lib.hid (HS0.out.below HB.out)
  replace HD := Lib.hid (HD0.out.below HB.out)
  replace HR := Lib.hid (HR.out.step hB)
  replace HO := Lib.hid (HO.out.step hB)
  replace O1 := Lib.hid (O1.out.step hB)
  replace O2 := Lib.hid (O2.out.step hB)
  replace O3 := Lib.hid (O3.out.step hB)
  replace O4 := Lib.hid (O4.out.step hB)
  clear hB
  cases C
  · skip
    have qO0 : W5.cell? ⟨(N + 1), 0, none⟩ = some (.int .i64 s.term) := cell_at HO.out 0
    have qO1 : W5.cell? ⟨(N + 1), 1, none⟩ = some (.int .i64 s.stamp) := cell_at HO.out 1
    have qO2 : W5.cell? ⟨(N + 1), 2, none⟩ = some (.int .i64 s.next) := cell_at HO.out 2
    have qO3 : W5.cell? ⟨(N + 1), 3, none⟩ = some (.slice b1 m1 k1) := cell_at HO.out 3
    have qO4 : W5.cell? ⟨(N + 1), 4, none⟩ = some (.slice b2 m2 k2) := cell_at HO.out 4
    have qO5 : W5.cell? ⟨(N + 1), 5, none⟩ = some (.slice b3 m3 k3) := cell_at HO.out 5
    have qO6 : W5.cell? ⟨(N + 1), 6, none⟩ = some (.slice b4 m4 k4) := cell_at HO.out 6
    have qOz : ∀ j, W5.frozen? ⟨(N + 1), j, none⟩ = false := fun j => free_at HO.out j
    have qOl : (N + 1) < W5.heap.size := HO.out.lt
    go_wp2_with fail
    clear qO0 qO1 qO2 qO3 qO4 qO5 qO6 qOz qOl
    obtain ⟨LS, hLS⟩ : ∃ L : List Value, L = [.int .i64 s.term, .int .i64 s.stamp, .int .i64 s.next, .slice b1 m1 k1, .slice b2 m2 k2, .slice b3 m3 k3, .slice b4 m4 k4] := ⟨_, rfl⟩
    obtain ⟨W6, hWS⟩ : ∃ WS, WS = W5.setCells (N + 1) 0 LS := ⟨_, rfl⟩
    have hch := hWS
    rw [hLS] at hch
    simp only [World.setCells, Nat.zero_add, Nat.reduceAdd] at hch
    rw [← hch]
    clear hch
    have hkS := stC_blk HO.out LS (by rw [hLS]; rfl)
    have hfS := stC_fr (N + 1) LS 0 W5
    rw [← hWS] at hkS hfS
    rw [hLS] at hkS
    replace HB := Lib.hid (HB.out.trans (hfS.below HB.out.size (by have := HLON.out; simp; try omega)))
    replace HT := Lib.hid (HT0.out.below HB.out)
    replace HL := Lib.hid (HL0.out.below HB.out)
    replace HS := Lib.hid (HS0.out.below HB.out)
    replace HD := Lib.hid (HD0.out.below HB.out)
    replace HR := Lib.hid (show Blk W6 N #[.int .i64 s.term, .int .i64 s.stamp, .int .i64 s.next, .slice ta tn tc, .slice la ln lc, .slice sa sn sc, .slice da dn dc] 27 from (hfS.block _ HR.out.lt (by simp; try omega)).trans HR.out)
    replace O1 := Lib.hid (O1.out.fr hfS (by have := FO1.out; omega))
    replace O2 := Lib.hid (O2.out.fr hfS (by have := FO2.out; omega))
    replace O3 := Lib.hid (O3.out.fr hfS (by have := FO3.out; omega))
    replace O4 := Lib.hid (O4.out.fr hfS (by have := FO4.out; omega))
    replace HO := Lib.hid (show Blk W6 (N + 1) #[.int .i64 s.term, .int .i64 s.stamp, .int .i64 s.next, .slice b1 m1 k1, .slice b2 m2 k2, .slice b3 m3 k3, .slice b4 m4 k4] 27 from hkS)
    clear hWS hLS hkS hfS
    have qO0 : W6.cell? ⟨(N + 1), 0, none⟩ = some (.int .i64 s.term) := cell_at HO.out 0
    have qO1 : W6.cell? ⟨(N + 1), 1, none⟩ = some (.int .i64 s.stamp) := cell_at HO.out 1
    have qO2 : W6.cell? ⟨(N + 1), 2, none⟩ = some (.int .i64 s.next) := cell_at HO.out 2
    have qO3 : W6.cell? ⟨(N + 1), 3, none⟩ = some (.slice b1 m1 k1) := cell_at HO.out 3
    have qO4 : W6.cell? ⟨(N + 1), 4, none⟩ = some (.slice b2 m2 k2) := cell_at HO.out 4
    have qO5 : W6.cell? ⟨(N + 1), 5, none⟩ = some (.slice b3 m3 k3) := cell_at HO.out 5
    have qO6 : W6.cell? ⟨(N + 1), 6, none⟩ = some (.slice b4 m4 k4) := cell_at HO.out 6
    have qOz : ∀ j, W6.frozen? ⟨(N + 1), j, none⟩ = false := fun j => free_at HO.out j
    have qOl : (N + 1) < W6.heap.size := HO.out.lt
    exact ⟨.agg #[.int .i64 s.term, .int .i64 s.stamp, .int .i64 s.next, .slice b1 m1 k1, .slice b2 m2 k2, .slice b3 m3 k3, .slice b4 m4 k4], by simp [results, Try.results18, go_sem, qO0, qO1, qO2, qO3, qO4, qO5, qO6], _, rfl, (by rw [show R = s from HR9.out]; exact ⟨_, _, _, _, rfl, tn_tv O1.out.v, O2.out.v, O3.out.v, O4.out.v⟩), HB.out⟩
  obtain rfl : R = sweptS ⟨s.term, s.stamp, s.next, s.ts.map (credT s.ls ticks), s.ls, s.ss, s.ds⟩ := HR9.out
  have HSZ9 := Lib.hid (HSZ.out rfl)
  have HF9 : Hid (fewS ⟨s.term, s.stamp, s.next, s.ts.map (credT s.ls ticks), s.ls, s.ss, s.ds⟩) := Lib.hid ⟨(by show (s.ts.map _).length ≤ 200; rw [List.length_map]; exact HFEW.out.1), HFEW.out.2.1, HFEW.out.2.2.1, HFEW.out.2.2.2⟩
  have HOB := Lib.hid (fun t => outL_bd s.ls t HSZ9.out)
  have HOU := Lib.hid (fun W v (h : SV W v s) => outs_any v s W h HFEW.out HSZ9.out)
  have qR0 : W5.cell? ⟨N, 0, none⟩ = some (.int .i64 s.term) := cell_at HR.out 0
  have qR1 : W5.cell? ⟨N, 1, none⟩ = some (.int .i64 s.stamp) := cell_at HR.out 1
  have qR2 : W5.cell? ⟨N, 2, none⟩ = some (.int .i64 s.next) := cell_at HR.out 2
  have qR3 : W5.cell? ⟨N, 3, none⟩ = some (.slice ta tn tc) := cell_at HR.out 3
  have qR4 : W5.cell? ⟨N, 4, none⟩ = some (.slice la ln lc) := cell_at HR.out 4
  have qR5 : W5.cell? ⟨N, 5, none⟩ = some (.slice sa sn sc) := cell_at HR.out 5
  have qR6 : W5.cell? ⟨N, 6, none⟩ = some (.slice da dn dc) := cell_at HR.out 6
  have qRz : ∀ j, W5.frozen? ⟨N, j, none⟩ = false := fun j => free_at HR.out j
  have qRl : N < W5.heap.size := HR.out.lt
  go_wp2_with fail
  go_at_call 32
  go_fit (HOU.out _ _ (HSV.out _ HT.out HL.out HS.out HD.out))
  rintro e W6 ⟨b, rfl, hmt, hB⟩
  clear qR0 qR1 qR2 qR3 qR4 qR5 qR6 qRz qRl
  replace HB := Lib.hid (HB.out.trans (hB.mono HB.out.size))
  replace HT := Lib.hid (HT0.out.below HB.out)
  replace HL := Lib.hid (HL0.out.below HB.out)
  replace HS := Lib.hid (HS0.out.below HB.out)
  replace HD := Lib.hid (HD0.out.below HB.out)
  replace HR := Lib.hid (HR.out.step hB)
  replace HO := Lib.hid (HO.out.step hB)
  replace O1 := Lib.hid (O1.out.step hB)
  replace O2 := Lib.hid (O2.out.step hB)
  replace O3 := Lib.hid (O3.out.step hB)
  replace O4 := Lib.hid (O4.out.step hB)
  clear hB
  have HM := Lib.hid hmt
  clear hmt
  obtain rfl : m1 = tn := Hb1.out.trans Htn.out.symm
  have qO0 : W6.cell? ⟨(N + 1), 0, none⟩ = some (.int .i64 s.term) := cell_at HO.out 0
  have qO1 : W6.cell? ⟨(N + 1), 1, none⟩ = some (.int .i64 s.stamp) := cell_at HO.out 1
  have qO2 : W6.cell? ⟨(N + 1), 2, none⟩ = some (.int .i64 s.next) := cell_at HO.out 2
  have qO3 : W6.cell? ⟨(N + 1), 3, none⟩ = some (.slice b1 m1 k1) := cell_at HO.out 3
  have qO4 : W6.cell? ⟨(N + 1), 4, none⟩ = some (.slice b2 m2 k2) := cell_at HO.out 4
  have qO5 : W6.cell? ⟨(N + 1), 5, none⟩ = some (.slice b3 m3 k3) := cell_at HO.out 5
  have qO6 : W6.cell? ⟨(N + 1), 6, none⟩ = some (.slice b4 m4 k4) := cell_at HO.out 6
  have qOz : ∀ j, W6.frozen? ⟨(N + 1), j, none⟩ = false := fun j => free_at HO.out j
  have qOl : (N + 1) < W6.heap.size := HO.out.lt
  have qR0 : W6.cell? ⟨N, 0, none⟩ = some (.int .i64 s.term) := cell_at HR.out 0
  have qR1 : W6.cell? ⟨N, 1, none⟩ = some (.int .i64 s.stamp) := cell_at HR.out 1
  have qR2 : W6.cell? ⟨N, 2, none⟩ = some (.int .i64 s.next) := cell_at HR.out 2
  have qR3 : W6.cell? ⟨N, 3, none⟩ = some (.slice ta m1 tc) := cell_at HR.out 3
  have qR4 : W6.cell? ⟨N, 4, none⟩ = some (.slice la ln lc) := cell_at HR.out 4
  have qR5 : W6.cell? ⟨N, 5, none⟩ = some (.slice sa sn sc) := cell_at HR.out 5
  have qR6 : W6.cell? ⟨N, 6, none⟩ = some (.slice da dn dc) := cell_at HR.out 6
  have qRz : ∀ j, W6.frozen? ⟨N, j, none⟩ = false := fun j => free_at HR.out j
  have qRl : N < W6.heap.size := HR.out.lt
  go_wp2_with fail
  clear qO0 qO1 qO2 qO3 qO4 qO5 qO6 qOz qOl qR0 qR1 qR2 qR3 qR4 qR5 qR6 qRz qRl
  have HO10 : Hid (TnO _ W6 _ ot (F 0)) := Lib.hid (by rw [HF0.out]; exact O1.out)
  obtain ⟨MM, hMM⟩ : ∃ M, TnO M W6 (.slice b1 m1 k1) ot (F 0) ∧ N + 1 < M ∧ w.heap.size ≤ M := ⟨_, HO10.out, FO1.out, HB0L.out⟩
  obtain ⟨hMM1, hMM2, hMM3⟩ := hMM
  have HMM1 := Lib.hid hMM1
  have HMM2 := Lib.hid hMM2
  have HMM3 := Lib.hid hMM3
  clear hMM1 hMM2 hMM3
  go_loopw [6, 7, 20] (fun _ _ k wr => ∃ i : Nat, i ≤ m1 ∧ k = .int .i64 i ∧ TnO MM wr (.slice b1 m1 k1) ot (F i) ∧ FrB W6.heap.size ot.toList W6 wr) (fun _ _ k _ => m1 - (intOf k).toNat)
  case atStart => exact ⟨0, Nat.zero_le _, rfl, HMM1.out, FrB.refl _ _ _⟩
  case round =>
    obtain ⟨i, hi, rfl, hrow, hfrb⟩ := hrel
    have HFRB := Lib.hid hfrb
    replace HB := Lib.hid (HB.out.trans (hfrb.below HB.out.size (by intro x hx; have := Option.mem_toList.1 hx; have h9 := hrow.2.2 x this; have := HMM3.out; omega)))
    replace HT := Lib.hid (HT0.out.below HB.out)
    replace HL := Lib.hid (HL0.out.below HB.out)
    replace HS := Lib.hid (HS0.out.below HB.out)
    replace HD := Lib.hid (HD0.out.below HB.out)
    replace HR := Lib.hid (HR.out.frBT O1.out hfrb (by decide))
    replace HO := Lib.hid (HO.out.frBT O1.out hfrb (by decide))
    replace HM := Lib.hid (HM.out.frBT O1.out hfrb)
    replace O2 := Lib.hid (O2.out.frBT O1.out hfrb)
    replace O3 := Lib.hid (O3.out.frBT O1.out hfrb)
    replace O4 := Lib.hid (O4.out.frBT O1.out hfrb)
    replace O1 := Lib.hid hrow
    have HBW : Hid (Below wr.heap.size wr wr) := Lib.hid (Below.refl _ _)
    clear hrow hfrb HO10
    by_cases hk : i < m1
    · skip
      have b9 : (i < m1) = True := eq_true hk
      have b8 : decide (i < m1) = true := decide_eq_true hk
      obtain ⟨gr, rfl, rfl⟩ : ∃ gr, ot = some gr ∧ b1 = some ⟨gr, 0, none⟩ := by
        rcases O1.out.1.cases with ⟨_, _, h0, _⟩ | ⟨gr, cap, cur, e1, e2, _⟩
        · exact absurd h0 (by rw [HFL.out i hi]; omega)
        · injection e2 with e3 e4 e5
          exact ⟨gr, e1, e3⟩
      obtain ⟨g, o, x, ea, g1, g2, q0, q1, q2, q3, q4⟩ := O1.out.v.at i hk
      injection ea with ea
      injection ea with ea1 ea2 _
      subst ea1 ea2
      obtain ⟨x', hx'⟩ : ∃ x', s.ts[i]? = some x' := ⟨_, List.getElem?_eq_getElem (by rw [← Htn.out]; exact hk)⟩
      obtain rfl : x' = x := Option.some.inj ((HFA.out i x' hx').symm.trans g2)
      have HFA2 := Lib.hid g2
      have HFS2 := Lib.hid (HFS.out i x' hx')
      have HG2 := Lib.hid (O1.out.2.2 gr rfl)
      have hox := O1.out.2.1 x' (List.mem_of_getElem? g2)
      have HOX := Lib.hid hox
      obtain ⟨ou, hou⟩ : ∃ ou, ou = outL s.ls x'.id := ⟨_, rfl⟩
      have hob := HOB.out x'.id
      rw [← hou, ← Hln.out] at hob
      have HOUE := Lib.hid hou
      obtain ⟨nb, hnb⟩ : ∃ nb, nb = creditS x'.bkt x'.rate x'.burst ou ticks := ⟨_, rfl⟩
      have hnbd := creditS_bd x'.bkt x'.rate x'.burst ou ticks
      rw [← hnb] at hnbd
      have HCR := Lib.hid (fun W => credit_any x'.bkt x'.rate x'.burst ou ticks (by have := HOX.out.2.2.2.1; omega) (by omega) W)
      rw [← hnb] at HCR
      have HCT : Hid (credT s.ls ticks x' = if x'.gone then x' else ⟨x'.id, x'.rate, x'.burst, nb, x'.gone⟩) := Lib.hid (by unfold credT; rw [← hou, ← hnb])
      obtain ⟨yg, hyg⟩ : ∃ yg, yg = x'.gone := ⟨_, rfl⟩
      rw [← hyg] at q4 HCT
      have ww5 : IntKind.i64.wrap ((i : Int) + 1) = (i : Int) + 1 := IntWalk.i64_in _ (by omega)
      obtain ⟨g3, e3, c3, z3⟩ := O1.out.1.cell (i * 5 + 3) (by rw [HFL.out i hi]; omega)
      obtain rfl := Option.some.inj e3
      have HZ3 := Lib.hid z3
      have HYG := Lib.hid hyg
      clear g2 hx' hox hou hnb e3 c3 z3 hyg
      simp only [Nat.zero_add] at q0 q1 q2 q3 q4
      have qO0 : wr.cell? ⟨(N + 1), 0, none⟩ = some (.int .i64 s.term) := cell_at HO.out 0
      have qO1 : wr.cell? ⟨(N + 1), 1, none⟩ = some (.int .i64 s.stamp) := cell_at HO.out 1
      have qO2 : wr.cell? ⟨(N + 1), 2, none⟩ = some (.int .i64 s.next) := cell_at HO.out 2
      have qO3 : wr.cell? ⟨(N + 1), 3, none⟩ = some (.slice (some ⟨gr, 0, none⟩) m1 k1) := cell_at HO.out 3
      have qO4 : wr.cell? ⟨(N + 1), 4, none⟩ = some (.slice b2 m2 k2) := cell_at HO.out 4
      have qO5 : wr.cell? ⟨(N + 1), 5, none⟩ = some (.slice b3 m3 k3) := cell_at HO.out 5
      have qO6 : wr.cell? ⟨(N + 1), 6, none⟩ = some (.slice b4 m4 k4) := cell_at HO.out 6
      have qOz : ∀ j, wr.frozen? ⟨(N + 1), j, none⟩ = false := fun j => free_at HO.out j
      have qOl : (N + 1) < wr.heap.size := HO.out.lt
      have qR0 : wr.cell? ⟨N, 0, none⟩ = some (.int .i64 s.term) := cell_at HR.out 0
      have qR1 : wr.cell? ⟨N, 1, none⟩ = some (.int .i64 s.stamp) := cell_at HR.out 1
      have qR2 : wr.cell? ⟨N, 2, none⟩ = some (.int .i64 s.next) := cell_at HR.out 2
      have qR3 : wr.cell? ⟨N, 3, none⟩ = some (.slice ta m1 tc) := cell_at HR.out 3
      have qR4 : wr.cell? ⟨N, 4, none⟩ = some (.slice la ln lc) := cell_at HR.out 4
      have qR5 : wr.cell? ⟨N, 5, none⟩ = some (.slice sa sn sc) := cell_at HR.out 5
      have qR6 : wr.cell? ⟨N, 6, none⟩ = some (.slice da dn dc) := cell_at HR.out 6
      have qRz : ∀ j, wr.frozen? ⟨N, j, none⟩ = false := fun j => free_at HR.out j
      have qRl : N < wr.heap.size := HR.out.lt
      go_upto_region 9 with fail
      clear qO0 qO1 qO2 qO3 qO4 qO5 qO6 qOz qOl qR0 qR1 qR2 qR3 qR4 qR5 qR6 qRz qRl
      obtain ⟨T9, hT9⟩ : ∃ n0, n0 = wr.heap.size := ⟨_, rfl⟩
      have HXT9HR : Hid (N < T9) := Lib.hid (by rw [hT9]; exact HR.out.lt)
      have HXT9HO : Hid ((N + 1) < T9) := Lib.hid (by rw [hT9]; exact HO.out.lt)
      have HUT9O1 : Hid (∀ g, some gr = some g → g < T9) := Lib.hid (fun g e => by rw [hT9]; first | (subst e; exact O1.out.1.lt) | (obtain rfl := Option.some.inj e; exact O1.out.1.lt))
      have HUT9O2 : Hid (∀ g, ol = some g → g < T9) := Lib.hid (fun g e => by rw [hT9]; first | (subst e; exact O2.out.1.lt) | (obtain rfl := Option.some.inj e; exact O2.out.1.lt))
      have HUT9O3 : Hid (∀ g, os = some g → g < T9) := Lib.hid (fun g e => by rw [hT9]; first | (subst e; exact O3.out.1.lt) | (obtain rfl := Option.some.inj e; exact O3.out.1.lt))
      have HUT9O4 : Hid (∀ g, od = some g → g < T9) := Lib.hid (fun g e => by rw [hT9]; first | (subst e; exact O4.out.1.lt) | (obtain rfl := Option.some.inj e; exact O4.out.1.lt))
      have HLOT9 : Hid (w.heap.size ≤ T9) := Lib.hid (by have := HB.out.size; omega)
      obtain ⟨W7, hA0⟩ : ∃ W0, W0 = wr.alloc (.cells #[.int .i64 x'.id, .int .i64 x'.rate, .int .i64 x'.burst, .int .i64 x'.bkt, .bool yg] 54) := ⟨_, rfl⟩
      have hB : Below wr.heap.size wr W7 := by rw [hA0]; exact (Below.refl _ _).alloc (Nat.le_refl _) _
      have hS0 : W7.heap.size = T9 + 1 := by rw [hA0]; simp [← hT9]
      have HT9 := Lib.hid (show Blk W7 T9 #[.int .i64 x'.id, .int .i64 x'.rate, .int .i64 x'.burst, .int .i64 x'.bkt, .bool yg] 54 by rw [hA0, hT9]; exact blk_new _ _ _)
      replace HB := Lib.hid (HB.out.trans (hB.mono HB.out.size))
      replace HT := Lib.hid (HT0.out.below HB.out)
      replace HL := Lib.hid (HL0.out.below HB.out)
      replace HS := Lib.hid (HS0.out.below HB.out)
      replace HD := Lib.hid (HD0.out.below HB.out)
      replace HR := Lib.hid (HR.out.step hB)
      replace HO := Lib.hid (HO.out.step hB)
      replace O1 := Lib.hid (O1.out.step hB)
      replace O2 := Lib.hid (O2.out.step hB)
      replace O3 := Lib.hid (O3.out.step hB)
      replace O4 := Lib.hid (O4.out.step hB)
      replace HM := Lib.hid (HM.out.step hB)
      replace HBW := Lib.hid (HBW.out.trans (hB.mono HBW.out.size))
      clear hB
      have HST9 := Lib.hid hS0
      rw [← hT9, ← hA0]
      clear hA0 hT9 hS0
      clear q0 q1 q2 q3 q4
      replace HG2 : Hid (_ ≤ gr) := HG2
      cases yg
      rotate_left
      · skip
        replace HFS2 : Hid (F (i + 1) = F i) := Lib.hid (by rw [HFS2.out, HCT.out]; exact set_id _ _ _ HFA2.out)
        have qT90 : W7.cell? ⟨T9, 0, none⟩ = some (.int .i64 x'.id) := cell_at HT9.out 0
        have qT91 : W7.cell? ⟨T9, 1, none⟩ = some (.int .i64 x'.rate) := cell_at HT9.out 1
        have qT92 : W7.cell? ⟨T9, 2, none⟩ = some (.int .i64 x'.burst) := cell_at HT9.out 2
        have qT93 : W7.cell? ⟨T9, 3, none⟩ = some (.int .i64 x'.bkt) := cell_at HT9.out 3
        have qT94 : W7.cell? ⟨T9, 4, none⟩ = some (.bool true) := cell_at HT9.out 4
        have qT9z : ∀ j, W7.frozen? ⟨T9, j, none⟩ = false := fun j => free_at HT9.out j
        have qT9l : T9 < W7.heap.size := HT9.out.lt
        have qO0 : W7.cell? ⟨(N + 1), 0, none⟩ = some (.int .i64 s.term) := cell_at HO.out 0
        have qO1 : W7.cell? ⟨(N + 1), 1, none⟩ = some (.int .i64 s.stamp) := cell_at HO.out 1
        have qO2 : W7.cell? ⟨(N + 1), 2, none⟩ = some (.int .i64 s.next) := cell_at HO.out 2
        have qO3 : W7.cell? ⟨(N + 1), 3, none⟩ = some (.slice (some ⟨gr, 0, none⟩) m1 k1) := cell_at HO.out 3
        have qO4 : W7.cell? ⟨(N + 1), 4, none⟩ = some (.slice b2 m2 k2) := cell_at HO.out 4
        have qO5 : W7.cell? ⟨(N + 1), 5, none⟩ = some (.slice b3 m3 k3) := cell_at HO.out 5
        have qO6 : W7.cell? ⟨(N + 1), 6, none⟩ = some (.slice b4 m4 k4) := cell_at HO.out 6
        have qOz : ∀ j, W7.frozen? ⟨(N + 1), j, none⟩ = false := fun j => free_at HO.out j
        have qOl : (N + 1) < W7.heap.size := HO.out.lt
        go_wp2_with fail
        go_roundw
        case rel => exact ⟨i + 1, by omega, by go_num, by rw [HFS2.out]; exact O1.out, HFRB.out.trans (FrB.of_below HBW.out HFRB.out.size)⟩
        case measure => first | (simp [intOf]; done) | (simp [intOf]; omega)
      replace HFS2 : Hid (F (i + 1) = (F i).set i ⟨x'.id, x'.rate, x'.burst, nb, x'.gone⟩) := Lib.hid (by rw [HFS2.out, HCT.out, ← HYG.out]; rfl)
      have qT90 : W7.cell? ⟨T9, 0, none⟩ = some (.int .i64 x'.id) := cell_at HT9.out 0
      have qT91 : W7.cell? ⟨T9, 1, none⟩ = some (.int .i64 x'.rate) := cell_at HT9.out 1
      have qT92 : W7.cell? ⟨T9, 2, none⟩ = some (.int .i64 x'.burst) := cell_at HT9.out 2
      have qT93 : W7.cell? ⟨T9, 3, none⟩ = some (.int .i64 x'.bkt) := cell_at HT9.out 3
      have qT94 : W7.cell? ⟨T9, 4, none⟩ = some (.bool false) := cell_at HT9.out 4
      have qT9z : ∀ j, W7.frozen? ⟨T9, j, none⟩ = false := fun j => free_at HT9.out j
      have qT9l : T9 < W7.heap.size := HT9.out.lt
      go_wp2_with fail
      refine wp_np ?_
      have HLKA := Lib.hid (fun X (h : MapT X b (fun c : Int => Value.agg #[.int .i64 c]) (outL s.ls)) => HKW.out X b _ x'.id h)
      rw [← HOUE.out] at HLKA
      clear qT90 qT91 qT92 qT93 qT94 qT9z qT9l
      refine wp_region_held_drew (S := fun X => (X.cell? ⟨(N + 1), 0, none⟩ = some (.int .i64 s.term) ∧ X.cell? ⟨(N + 1), 1, none⟩ = some (.int .i64 s.stamp) ∧ X.cell? ⟨(N + 1), 2, none⟩ = some (.int .i64 s.next) ∧ X.cell? ⟨(N + 1), 3, none⟩ = some (.slice (some ⟨gr, 0, none⟩) m1 k1) ∧ X.cell? ⟨(N + 1), 4, none⟩ = some (.slice b2 m2 k2) ∧ X.cell? ⟨(N + 1), 5, none⟩ = some (.slice b3 m3 k3) ∧ X.cell? ⟨(N + 1), 6, none⟩ = some (.slice b4 m4 k4) ∧ (N + 1) < X.heap.size) ∧ (X.cell? ⟨T9, 0, none⟩ = some (.int .i64 x'.id) ∧ X.cell? ⟨T9, 1, none⟩ = some (.int .i64 x'.rate) ∧ X.cell? ⟨T9, 2, none⟩ = some (.int .i64 x'.burst) ∧ X.cell? ⟨T9, 3, none⟩ = some (.int .i64 x'.bkt) ∧ X.cell? ⟨T9, 4, none⟩ = some (.bool false) ∧ T9 < X.heap.size) ∧ (Instr.lookup 63 (.map (some b)) (.agg #[.int .i64 x'.id]) false).run Try.prog X = .ok (.int .i64 ou) X) (by kernel_rfl) ⟨⟨cell_at HO.out 0, cell_at HO.out 1, cell_at HO.out 2, cell_at HO.out 3, cell_at HO.out 4, cell_at HO.out 5, cell_at HO.out 6, HO.out.lt⟩, ⟨cell_at HT9.out 0, cell_at HT9.out 1, cell_at HT9.out 2, cell_at HT9.out 3, cell_at HT9.out 4, HT9.out.lt⟩, (HLKA.out _ (by first | exact HM.out | exact HM.out.congr rfl))⟩ (fun hHeld => ?_)
      ((refine wpAnyH_take (i := 0) (v := ?_) (by (simp only [List.getElem?_toArray, List.getElem?_cons_succ, List.getElem?_cons_zero]); rfl) (by kernel_rfl) (by kernel_rfl) (by kernel_rfl) (by exact fun _ _ _ h => h) (Or.inl ⟨by rfl, ?_⟩) (by assumption) ?_); rotate_left; focus (intro wS hSw; (try dsimp only at hSw); go_simp; first | done | with_reducible rfl); try simp only [Act.put, List.setIfInBounds_toArray, List.set_cons_zero, List.set_cons_succ])
      ((refine wpAnyH_take (i := 1) (v := ?_) (by (simp only [List.getElem?_toArray, List.getElem?_cons_succ, List.getElem?_cons_zero]); rfl) (by kernel_rfl) (by kernel_rfl) (by kernel_rfl) (by exact fun _ _ _ h => h) (Or.inl ⟨by rfl, ?_⟩) (by assumption) ?_); rotate_left; focus (intro wS hSw; (try dsimp only at hSw); go_simp; first | done | with_reducible rfl); try simp only [Act.put, List.setIfInBounds_toArray, List.set_cons_zero, List.set_cons_succ])
      ((refine wpAnyH_take (i := 2) (v := ?_) (by (simp only [List.getElem?_toArray, List.getElem?_cons_succ, List.getElem?_cons_zero]); rfl) (by kernel_rfl) (by kernel_rfl) (by kernel_rfl) (by exact fun _ _ _ h => h) (Or.inl ⟨by rfl, ?_⟩) (by assumption) ?_); rotate_left; focus (intro wS hSw; (try dsimp only at hSw); go_simp; first | done | with_reducible rfl); try simp only [Act.put, List.setIfInBounds_toArray, List.set_cons_zero, List.set_cons_succ])
      ((refine wpAnyH_take (i := 3) (v := ?_) (by (simp only [List.getElem?_toArray, List.getElem?_cons_succ, List.getElem?_cons_zero]); rfl) (by kernel_rfl) (by kernel_rfl) (by kernel_rfl) (by exact fun _ _ _ h => h) (Or.inl ⟨by rfl, ?_⟩) (by assumption) ?_); rotate_left; focus (intro wS hSw; (try dsimp only at hSw); go_simp; first | done | with_reducible rfl); try simp only [Act.put, List.setIfInBounds_toArray, List.set_cons_zero, List.set_cons_succ])
      ((refine wpAnyH_take (i := 4) (v := ?_) (by (simp only [List.getElem?_toArray, List.getElem?_cons_succ, List.getElem?_cons_zero]); rfl) (by kernel_rfl) (by kernel_rfl) (by kernel_rfl) (by exact fun _ _ _ h => h) (Or.inl ⟨by rfl, ?_⟩) (by assumption) ?_); rotate_left; focus (intro wS hSw; (try dsimp only at hSw); go_simp; first | done | with_reducible rfl); try simp only [Act.put, List.setIfInBounds_toArray, List.set_cons_zero, List.set_cons_succ])
      ((refine wpAnyH_take (i := 5) (v := ?_) (by (simp only [List.getElem?_toArray, List.getElem?_cons_succ, List.getElem?_cons_zero]); rfl) (by kernel_rfl) (by kernel_rfl) (by kernel_rfl) (by exact fun _ _ _ h => h) (Or.inl ⟨by rfl, ?_⟩) (by assumption) ?_); rotate_left; focus (intro wS hSw; (try dsimp only at hSw); go_simp; first | done | with_reducible rfl); try simp only [Act.put, List.setIfInBounds_toArray, List.set_cons_zero, List.set_cons_succ])
      ((refine wpAnyH_take (i := 6) (v := ?_) (by (simp only [List.getElem?_toArray, List.getElem?_cons_succ, List.getElem?_cons_zero]); rfl) (by kernel_rfl) (by kernel_rfl) (by kernel_rfl) (by exact fun _ _ _ h => h) (Or.inl ⟨by rfl, ?_⟩) (by assumption) ?_); rotate_left; focus (intro wS hSw; (try dsimp only at hSw); go_simp; first | done | with_reducible rfl); try simp only [Act.put, List.setIfInBounds_toArray, List.set_cons_zero, List.set_cons_succ])
      ((refine wpAnyH_take (i := 7) (v := ?_) (by (simp only [List.getElem?_toArray, List.getElem?_cons_succ, List.getElem?_cons_zero]); rfl) (by kernel_rfl) (by kernel_rfl) (by kernel_rfl) (by exact fun _ _ _ h => h) (Or.inl ⟨by rfl, ?_⟩) (by assumption) ?_); rotate_left; focus (intro wS hSw; (try dsimp only at hSw); go_simp; first | done | with_reducible rfl); try simp only [Act.put, List.setIfInBounds_toArray, List.set_cons_zero, List.set_cons_succ])
      ((refine wpAnyH_take (i := 8) (v := ?_) (by (simp only [List.getElem?_toArray, List.getElem?_cons_succ, List.getElem?_cons_zero]); rfl) (by kernel_rfl) (by kernel_rfl) (by kernel_rfl) (by exact fun _ _ _ h => h) (Or.inl ⟨by rfl, ?_⟩) (by assumption) ?_); rotate_left; focus (intro wS hSw; (try dsimp only at hSw); go_simp; first | done | with_reducible rfl); try simp only [Act.put, List.setIfInBounds_toArray, List.set_cons_zero, List.set_cons_succ])
      ((refine wpAnyH_take (i := 9) (v := ?_) (by (simp only [List.getElem?_toArray, List.getElem?_cons_succ, List.getElem?_cons_zero]); rfl) (by kernel_rfl) (by kernel_rfl) (by kernel_rfl) (by exact fun _ _ _ h => h) (Or.inl ⟨by rfl, ?_⟩) (by assumption) ?_); rotate_left; focus (intro wS hSw; (try dsimp only at hSw); go_simp; first | done | with_reducible rfl); try simp only [Act.put, List.setIfInBounds_toArray, List.set_cons_zero, List.set_cons_succ])
      ((refine wpAnyH_take (i := 10) (v := ?_) (by (simp only [List.getElem?_toArray, List.getElem?_cons_succ, List.getElem?_cons_zero]); rfl) (by kernel_rfl) (by kernel_rfl) (by kernel_rfl) (by exact fun _ _ _ h => h) (Or.inl ⟨by rfl, ?_⟩) (by assumption) ?_); rotate_left; focus (intro wS hSw; (try dsimp only at hSw); go_simp; first | done | with_reducible rfl); try simp only [Act.put, List.setIfInBounds_toArray, List.set_cons_zero, List.set_cons_succ])
      ((refine wpAnyH_take (i := 11) (v := ?_) (by (simp only [List.getElem?_toArray, List.getElem?_cons_succ, List.getElem?_cons_zero]); rfl) (by kernel_rfl) (by kernel_rfl) (by kernel_rfl) (by exact fun _ _ _ h => h) (Or.inl ⟨by rfl, ?_⟩) (by assumption) ?_); rotate_left; focus (intro wS hSw; (try dsimp only at hSw); go_simp; first | done | with_reducible rfl); try simp only [Act.put, List.setIfInBounds_toArray, List.set_cons_zero, List.set_cons_succ])
      ((refine wpAnyH_take (i := 12) (v := ?_) (by (simp only [List.getElem?_toArray, List.getElem?_cons_succ, List.getElem?_cons_zero]); rfl) (by kernel_rfl) (by kernel_rfl) (by kernel_rfl) (by exact fun _ _ _ h => h) (Or.inl ⟨by rfl, ?_⟩) (by assumption) ?_); rotate_left; focus (intro wS hSw; (try dsimp only at hSw); go_simp; first | done | with_reducible rfl); try simp only [Act.put, List.setIfInBounds_toArray, List.set_cons_zero, List.set_cons_succ])
      ((refine wpAnyH_take (i := 13) (v := ?_) (by (simp only [List.getElem?_toArray, List.getElem?_cons_succ, List.getElem?_cons_zero]); rfl) (by kernel_rfl) (by kernel_rfl) (by kernel_rfl) (by exact fun _ _ _ h => h) (Or.inl ⟨by rfl, ?_⟩) (by assumption) ?_); rotate_left; focus (intro wS hSw; (try dsimp only at hSw); go_simp; first | done | with_reducible rfl); try simp only [Act.put, List.setIfInBounds_toArray, List.set_cons_zero, List.set_cons_succ])
      ((refine wpAnyH_take (i := 14) (v := ?_) (by (simp only [List.getElem?_toArray, List.getElem?_cons_succ, List.getElem?_cons_zero]); rfl) (by kernel_rfl) (by kernel_rfl) (by kernel_rfl) (by exact fun _ _ _ h => h) (Or.inl ⟨by rfl, ?_⟩) (by assumption) ?_); rotate_left; focus (intro wS hSw; (try dsimp only at hSw); go_simp; first | done | with_reducible rfl); try simp only [Act.put, List.setIfInBounds_toArray, List.set_cons_zero, List.set_cons_succ])
      refine wpAnyH_ready (rs := [15]) (by kernel_rfl) (by simp) ?_
      refine AllReadyH.cons (by (simp only [List.getElem?_toArray, List.getElem?_cons_succ, List.getElem?_cons_zero]); rfl) (fun K hK => ?_) AllReadyH.nil
      go_simp
      go_fit (HCR.out _)
      rintro e W8 ⟨rfl, hB⟩
      replace hB := below_undrew hB
      replace HB := Lib.hid (HB.out.trans (hB.mono HB.out.size))
      replace HT := Lib.hid (HT0.out.below HB.out)
      replace HL := Lib.hid (HL0.out.below HB.out)
      replace HS := Lib.hid (HS0.out.below HB.out)
      replace HD := Lib.hid (HD0.out.below HB.out)
      replace HR := Lib.hid (HR.out.step hB)
      replace HO := Lib.hid (HO.out.step hB)
      replace O1 := Lib.hid (O1.out.step hB)
      replace O2 := Lib.hid (O2.out.step hB)
      replace O3 := Lib.hid (O3.out.step hB)
      replace O4 := Lib.hid (O4.out.step hB)
      replace HM := Lib.hid (HM.out.step hB)
      replace HBW := Lib.hid (HBW.out.trans (hB.mono HBW.out.size))
      replace HT9 := Lib.hid (HT9.out.step hB)
      go_wp2_with fail
      refine hK.out _ _ ⟨⟨cell_at HO.out 0, cell_at HO.out 1, cell_at HO.out 2, cell_at HO.out 3, cell_at HO.out 4, cell_at HO.out 5, cell_at HO.out 6, HO.out.lt⟩, ⟨cell_at HT9.out 0, cell_at HT9.out 1, cell_at HT9.out 2, cell_at HT9.out 3, cell_at HT9.out 4, HT9.out.lt⟩, (HLKA.out _ (by first | exact HM.out | exact HM.out.congr rfl))⟩ (fun hHeld => ?_)
      clear hK K hB
      try simp only [Act.put, List.setIfInBounds_toArray, List.set_cons_zero, List.set_cons_succ]
      ((refine wpAnyH_take (i := 16) (v := ?_) (by (simp only [List.getElem?_toArray, List.getElem?_cons_succ, List.getElem?_cons_zero]); rfl) (by kernel_rfl) (by kernel_rfl) (by kernel_rfl) (by exact fun _ _ _ h => h) (Or.inl ⟨by rfl, ?_⟩) (by assumption) ?_); rotate_left; focus (intro wS hSw; (try dsimp only at hSw); go_simp; first | done | with_reducible rfl); try simp only [Act.put, List.setIfInBounds_toArray, List.set_cons_zero, List.set_cons_succ])
      ((refine wpAnyH_take (i := 17) (v := ?_) (by (simp only [List.getElem?_toArray, List.getElem?_cons_succ, List.getElem?_cons_zero]); rfl) (by kernel_rfl) (by kernel_rfl) (by kernel_rfl) (by exact fun _ _ _ h => h) (Or.inl ⟨by rfl, ?_⟩) (by assumption) ?_); rotate_left; focus (intro wS hSw; (try dsimp only at hSw); go_simp; first | done | with_reducible rfl); try simp only [Act.put, List.setIfInBounds_toArray, List.set_cons_zero, List.set_cons_succ])
      have c6 : W8.cell? ⟨gr, i * 5 + 3, none⟩ = some (.int .i64 x'.bkt) := by
        obtain ⟨g, o, x, ea, g1, g2, q0, q1, q2, q3, q4⟩ := O1.out.v.at i hk
        injection ea with ea
        injection ea with ea1 ea2 _
        subst ea1 ea2
        obtain rfl : x' = x := Option.some.inj (HFA2.out.symm.trans g2)
        simpa using q3
      have z6 : W8.frozen? ⟨gr, i * 5 + 3, none⟩ = false := by
        obtain ⟨g3, e3, c3, z3⟩ := O1.out.1.cell (i * 5 + 3) (by rw [HFL.out i hi]; omega)
        obtain rfl := Option.some.inj e3
        exact z3
      have l6 : gr < W8.heap.size := O1.out.1.lt
      refine wpAnyH_ready (rs := [18]) (by kernel_rfl) (by simp) ?_
      refine AllReadyH.cons (by (simp only [List.getElem?_toArray, List.getElem?_cons_succ, List.getElem?_cons_zero]); rfl) (fun K hK => ?_) AllReadyH.nil
      rw [if_pos (by rfl)]
      go_simp
      obtain ⟨W9, hWS⟩ : ∃ WS, WS = W8.setCell ⟨gr, i * 5 + 3, none⟩ (.int .i64 nb) := ⟨_, rfl⟩
      rw [← hWS]
      have hfS : Fr [gr] W8 W9 := by rw [hWS]; exact (Fr.refl _ _).setCell _ (.inl (by simp)) _
      have hO1 := O1.out.setBkt HFA2.out nb (by omega)
      rw [← hWS] at hO1
      have hfB : FrB W8.heap.size (some gr).toList W8 W9 := FrB.of_fr hfS (Nat.le_refl _)
      replace HM := Lib.hid (HM.out.frBT O1.out hfB)
      replace HO := Lib.hid (HO.out.frBT O1.out hfB (by decide))
      have hne9 : T9 ≠ gr := by have h1 := HUT9O1.out gr rfl; omega
      replace HT9 := Lib.hid (show Blk _ T9 _ _ from (hfS.block T9 HT9.out.lt (by simpa using hne9)).trans HT9.out)
      replace O1 := Lib.hid hO1
      refine hK.out _ _ ⟨⟨cell_at HO.out 0, cell_at HO.out 1, cell_at HO.out 2, cell_at HO.out 3, cell_at HO.out 4, cell_at HO.out 5, cell_at HO.out 6, HO.out.lt⟩, ⟨cell_at HT9.out 0, cell_at HT9.out 1, cell_at HT9.out 2, cell_at HT9.out 3, cell_at HT9.out 4, HT9.out.lt⟩, (HLKA.out _ (by first | exact HM.out | exact HM.out.congr rfl))⟩ (fun hHeld => ?_)
      have HFB := Lib.hid hfB
      clear hK K hO1 hfS hfB hWS c6 z6 l6
      refine wpAnyH_done (by kernel_rfl) ?_ _
      simp only [NoPan]
      try simp only [Act.put, List.setIfInBounds_toArray, List.set_cons_zero, List.set_cons_succ]
      go_wp2_with fail
      go_roundw
      case rel => exact ⟨i + 1, by omega, by go_num, by rw [HFS2.out]; exact O1.out, HFRB.out.trans ((FrB.of_below HBW.out HFRB.out.size).trans (HFB.out.mono0 (Nat.le_trans HFRB.out.size HBW.out.size)))⟩
      case measure => first | (simp [intOf]; done) | (simp [intOf]; omega)
    · skip
      have b9 : (i < m1) = False := eq_false hk
      have b8 : decide (i < m1) = false := decide_eq_false hk
      obtain rfl : m1 = i := by omega
      rw [HFE.out] at O1
      replace FO1 := HMM2
      have qO0 : wr.cell? ⟨(N + 1), 0, none⟩ = some (.int .i64 s.term) := cell_at HO.out 0
      have qO1 : wr.cell? ⟨(N + 1), 1, none⟩ = some (.int .i64 s.stamp) := cell_at HO.out 1
      have qO2 : wr.cell? ⟨(N + 1), 2, none⟩ = some (.int .i64 s.next) := cell_at HO.out 2
      have qO3 : wr.cell? ⟨(N + 1), 3, none⟩ = some (.slice b1 m1 k1) := cell_at HO.out 3
      have qO4 : wr.cell? ⟨(N + 1), 4, none⟩ = some (.slice b2 m2 k2) := cell_at HO.out 4
      have qO5 : wr.cell? ⟨(N + 1), 5, none⟩ = some (.slice b3 m3 k3) := cell_at HO.out 5
      have qO6 : wr.cell? ⟨(N + 1), 6, none⟩ = some (.slice b4 m4 k4) := cell_at HO.out 6
      have qOz : ∀ j, wr.frozen? ⟨(N + 1), j, none⟩ = false := fun j => free_at HO.out j
      have qOl : (N + 1) < wr.heap.size := HO.out.lt
      go_wp2_with fail
      clear qO0 qO1 qO2 qO3 qO4 qO5 qO6 qOz qOl
      obtain ⟨LS, hLS⟩ : ∃ L : List Value, L = [.int .i64 s.term, .int .i64 s.stamp, .int .i64 s.next, .slice b1 m1 k1, .slice b2 m2 k2, .slice b3 m3 k3, .slice b4 m4 k4] := ⟨_, rfl⟩
      obtain ⟨W7, hWS⟩ : ∃ WS, WS = wr.setCells (N + 1) 0 LS := ⟨_, rfl⟩
      have hch := hWS
      rw [hLS] at hch
      simp only [World.setCells, Nat.zero_add, Nat.reduceAdd] at hch
      rw [← hch]
      clear hch
      have hkS := stC_blk HO.out LS (by rw [hLS]; rfl)
      have hfS := stC_fr (N + 1) LS 0 wr
      rw [← hWS] at hkS hfS
      rw [hLS] at hkS
      replace HB := Lib.hid (HB.out.trans (hfS.below HB.out.size (by have := HLON.out; simp; try omega)))
      replace HT := Lib.hid (HT0.out.below HB.out)
      replace HL := Lib.hid (HL0.out.below HB.out)
      replace HS := Lib.hid (HS0.out.below HB.out)
      replace HD := Lib.hid (HD0.out.below HB.out)
      replace HR := Lib.hid (show Blk W7 N #[.int .i64 s.term, .int .i64 s.stamp, .int .i64 s.next, .slice ta m1 tc, .slice la ln lc, .slice sa sn sc, .slice da dn dc] 27 from (hfS.block _ HR.out.lt (by simp; try omega)).trans HR.out)
      replace O1 := Lib.hid (O1.out.fr hfS (by have := FO1.out; omega))
      replace O2 := Lib.hid (O2.out.fr hfS (by have := FO2.out; omega))
      replace O3 := Lib.hid (O3.out.fr hfS (by have := FO3.out; omega))
      replace O4 := Lib.hid (O4.out.fr hfS (by have := FO4.out; omega))
      replace HO := Lib.hid (show Blk W7 (N + 1) #[.int .i64 s.term, .int .i64 s.stamp, .int .i64 s.next, .slice b1 m1 k1, .slice b2 m2 k2, .slice b3 m3 k3, .slice b4 m4 k4] 27 from hkS)
      clear hWS hLS hkS hfS
      refine leaves_cons (f := 37) (args := #[.pointer (some ⟨(N + 1), 0, none⟩)]) (by simp) (by simp [go_sem]) ?_
      refine (credit1_d .returning _ _ _ _ (⟨s.term, s.stamp, s.next, s.ts.map (credT s.ls ticks), s.ls, s.ss, s.ds⟩) (N + 1) _ HO.out (tn_tv O1.out.v) O2.out.v O3.out.v O4.out.v HF9.out HSZ9.out).mono ?_
      rintro e u9 W8 ⟨rfl, vt9, rfl, hO9, hQ9, hF9⟩
      have z0 : W8.cell? ⟨(N + 1), 0, none⟩ = some (.int .i64 s.term) := cell_at hO9 0
      have z1 : W8.cell? ⟨(N + 1), 1, none⟩ = some (.int .i64 s.stamp) := cell_at hO9 1
      have z2 : W8.cell? ⟨(N + 1), 2, none⟩ = some (.int .i64 s.next) := cell_at hO9 2
      have z3 : W8.cell? ⟨(N + 1), 3, none⟩ = some (vt9) := cell_at hO9 3
      have z4 : W8.cell? ⟨(N + 1), 4, none⟩ = some (.slice b2 m2 k2) := cell_at hO9 4
      have z5 : W8.cell? ⟨(N + 1), 5, none⟩ = some (.slice b3 m3 k3) := cell_at hO9 5
      have z6 : W8.cell? ⟨(N + 1), 6, none⟩ = some (.slice b4 m4 k4) := cell_at hO9 6
      exact ⟨.agg #[.int .i64 s.term, .int .i64 s.stamp, .int .i64 s.next, vt9, .slice b2 m2 k2, .slice b3 m3 k3, .slice b4 m4 k4], by simp [results, Try.results18, go_sem, z0, z1, z2, z3, z4, z5, z6], _, rfl, ⟨_, _, _, _, rfl, hQ9, (O2.out.fr hF9 (by have := FO2.out; omega)).v, (O3.out.fr hF9 (by have := FO3.out; omega)).v, (O4.out.fr hF9 (by have := FO4.out; omega)).v⟩, HB.out.trans (hF9.below HB.out.size (by have := HLON.out; simp; omega))⟩
end Go.Proofs.Ytfgnjpdlchimpaa
namespace Go.Proofs.Ytfgnjpdlchimpaa
open Go.RowKit
set_option linter.unusedSimpArgs false
set_option linter.unusedVariables false

set_option maxRecDepth 100000 in
set_option maxHeartbeats 16000000 in
theorem ledgerLate_walk (v vi : Value) (s : StE) (le : Int) (l : List Int) (w : World) (h : SV w v s) (hi : InV w vi l) :
    Calls Try.prog 8 #[v, .int .i64 le, vi] w fun e w' => e = .returned (.bool true) ∧ Below w.heap.size w w' := by
  obtain ⟨vt, vl, vs, vd, rfl, ht, hl, hs, hd⟩ := h
  obtain ⟨ta, tn, tc, rfl, Htn, tn1, tn2⟩ := ht.sh
  obtain ⟨la, ln, lc, rfl, Hln, ln1, ln2⟩ := hl.sh
  obtain ⟨sa, sn, sc, rfl, Hsn, sn1, sn2⟩ := hs.sh
  obtain ⟨da, dn, dc, rfl, Hdn, dn1, dn2⟩ := hd.sh
  have HT0 := Lib.hid ht
  have HL0 := Lib.hid hl
  have HS0 := Lib.hid hs
  have HD0 := Lib.hid hd
  have HT := Lib.hid ht
  have HL := Lib.hid hl
  have HS := Lib.hid hs
  have HD := Lib.hid hd
  clear ht hl hs hd
  have HSV : Hid (∀ W, TV W (.slice ta tn tc) s.ts → LeV W (.slice la ln lc) s.ls → SeV W (.slice sa sn sc) s.ss → DkV W (.slice da dn dc) s.ds → SV W (.agg #[.int .i64 s.term, .int .i64 s.stamp, .int .i64 s.next, .slice ta tn tc, .slice la ln lc, .slice sa sn sc, .slice da dn dc]) s) := Lib.hid (fun W h1 h2 h3 h4 => ⟨_, _, _, _, rfl, h1, h2, h3, h4⟩)
  have HGT := Lib.hid (fun W v (h : SV W v s) => greatS_any v s W h)
  obtain ⟨G, hG⟩ : ∃ G, G = (decide (60 < s.ts.length) || decide (100 < s.ls.length) || decide (60 < s.ss.length) || decide (60 < s.ds.length)) := ⟨_, rfl⟩
  rw [← hG] at HGT
  have HFEW : Hid (G = false → fewS s) := Lib.hid (fun h => by
    rw [h] at hG
    have hG := hG.symm
    simp only [Bool.or_eq_false_iff, decide_eq_false_iff_not] at hG
    unfold fewS
    omega)
  have HWK := Lib.hid wakes_any
  clear hG
  obtain ⟨ia, iN, ic, rfl, Hin, in1, in2⟩ := hi.sh
  have HI0 := Lib.hid hi
  clear hi
  have HB : Hid (Below w.heap.size w w) := Lib.hid (Below.refl _ _)
  go_enter Try.func8, Try.ntmps8
  go_upto_region 1 with fail
  obtain ⟨N, hN⟩ : ∃ n0, n0 = w.heap.size := ⟨_, rfl⟩
  have HLON : Hid (w.heap.size ≤ N) := Lib.hid (by have := HB.out.size; omega)
  obtain ⟨W1, hA0⟩ : ∃ W0, W0 = w.alloc (.cells #[.int .i64 s.term, .int .i64 s.stamp, .int .i64 s.next, .slice ta tn tc, .slice la ln lc, .slice sa sn sc, .slice da dn dc] 27) := ⟨_, rfl⟩
  have hB : Below w.heap.size w W1 := by rw [hA0]; exact (Below.refl _ _).alloc (Nat.le_refl _) _
  have hS0 : W1.heap.size = N + 1 := by rw [hA0]; simp [← hN]
  have HR := Lib.hid (show Blk W1 N #[.int .i64 s.term, .int .i64 s.stamp, .int .i64 s.next, .slice ta tn tc, .slice la ln lc, .slice sa sn sc, .slice da dn dc] 27 by rw [hA0, hN]; exact blk_new _ _ _)
  replace HB := Lib.hid (HB.out.trans (hB.mono HB.out.size))
  replace HT := Lib.hid (HT0.out.below HB.out)
  replace HL := Lib.hid (HL0.out.below HB.out)
  replace HS := Lib.hid (HS0.out.below HB.out)
  replace HD := Lib.hid (HD0.out.below HB.out)
  clear hB
  have HSN := Lib.hid hS0
  rw [← hN, ← hA0]
  clear hA0 hN hS0
  have qR0 : W1.cell? ⟨N, 0, none⟩ = some (.int .i64 s.term) := cell_at HR.out 0
  have qR1 : W1.cell? ⟨N, 1, none⟩ = some (.int .i64 s.stamp) := cell_at HR.out 1
  have qR2 : W1.cell? ⟨N, 2, none⟩ = some (.int .i64 s.next) := cell_at HR.out 2
  have qR3 : W1.cell? ⟨N, 3, none⟩ = some (.slice ta tn tc) := cell_at HR.out 3
  have qR4 : W1.cell? ⟨N, 4, none⟩ = some (.slice la ln lc) := cell_at HR.out 4
  have qR5 : W1.cell? ⟨N, 5, none⟩ = some (.slice sa sn sc) := cell_at HR.out 5
  have qR6 : W1.cell? ⟨N, 6, none⟩ = some (.slice da dn dc) := cell_at HR.out 6
  have qRz : ∀ j, W1.frozen? ⟨N, j, none⟩ = false := fun j => free_at HR.out j
  have qRl : N < W1.heap.size := HR.out.lt
  go_wp2_with fail
  go_at_call 9
  go_fit (HGT.out _ _ (HSV.out _ HT.out HL.out HS.out HD.out))
  rintro e W2 ⟨rfl, hB⟩
  clear qR0 qR1 qR2 qR3 qR4 qR5 qR6 qRz qRl
  replace HB := Lib.hid (HB.out.trans (hB.mono HB.out.size))
  replace HT := Lib.hid (HT0.out.below HB.out)
  replace HL := Lib.hid (HL0.out.below HB.out)
  replace HS := Lib.hid (HS0.out.below HB.out)
  replace HD := Lib.hid (HD0.out.below HB.out)
  replace HR := Lib.hid (HR.out.step hB)
  clear hB
  cases G
  rotate_left
  · skip
    go_wp2_with fail
    go_at_call 10
    go_fit (HWK.out _)
    rintro e W3 ⟨rfl, hB⟩
    replace HB := Lib.hid (HB.out.trans (hB.mono HB.out.size))
    replace HT := Lib.hid (HT0.out.below HB.out)
    replace HL := Lib.hid (HL0.out.below HB.out)
    replace HS := Lib.hid (HS0.out.below HB.out)
    replace HD := Lib.hid (HD0.out.below HB.out)
    replace HR := Lib.hid (HR.out.step hB)
    clear hB
    go_wp2_with fail
    go_ret
    exact ⟨rfl, HB.out⟩
  by_cases hbig : 30 < iN
  · skip
    have tb : decide ((30 : Int) < (iN : Int)) = true := decide_eq_true (by omega)
    go_wp2_with fail
    go_at_call 10
    go_fit (HWK.out _)
    rintro e W3 ⟨rfl, hB⟩
    replace HB := Lib.hid (HB.out.trans (hB.mono HB.out.size))
    replace HT := Lib.hid (HT0.out.below HB.out)
    replace HL := Lib.hid (HL0.out.below HB.out)
    replace HS := Lib.hid (HS0.out.below HB.out)
    replace HD := Lib.hid (HD0.out.below HB.out)
    replace HR := Lib.hid (HR.out.step hB)
    clear hB
    go_wp2_with fail
    go_ret
    exact ⟨rfl, HB.out⟩
  have tb : decide ((30 : Int) < (iN : Int)) = false := decide_eq_false (by omega)
  have hfew := HFEW.out rfl
  have HFW := Lib.hid hfew
  have HCD := Lib.hid (fun W v (h : SV W v s) => rcheckS_any v s W h hfew)
  have HFD := Lib.hid (fun W v (h : SV W v s) => rfindS_any v s le W h hfew)
  obtain ⟨C, hC⟩ : ∃ C, C = chkS s := ⟨_, rfl⟩
  rw [← hC] at HCD
  have HFC : Hid (C = true → fndS s le = fndL le s.ls) := Lib.hid (fun h => by unfold fndS; rw [← hC, h]; rfl)
  have HCE := Lib.hid hC
  clear hfew hC
  have qR0 : W2.cell? ⟨N, 0, none⟩ = some (.int .i64 s.term) := cell_at HR.out 0
  have qR1 : W2.cell? ⟨N, 1, none⟩ = some (.int .i64 s.stamp) := cell_at HR.out 1
  have qR2 : W2.cell? ⟨N, 2, none⟩ = some (.int .i64 s.next) := cell_at HR.out 2
  have qR3 : W2.cell? ⟨N, 3, none⟩ = some (.slice ta tn tc) := cell_at HR.out 3
  have qR4 : W2.cell? ⟨N, 4, none⟩ = some (.slice la ln lc) := cell_at HR.out 4
  have qR5 : W2.cell? ⟨N, 5, none⟩ = some (.slice sa sn sc) := cell_at HR.out 5
  have qR6 : W2.cell? ⟨N, 6, none⟩ = some (.slice da dn dc) := cell_at HR.out 6
  have qRz : ∀ j, W2.frozen? ⟨N, j, none⟩ = false := fun j => free_at HR.out j
  have qRl : N < W2.heap.size := HR.out.lt
  go_wp2_with fail
  go_at_call 13
  go_fit (HCD.out _ _ (HSV.out _ HT.out HL.out HS.out HD.out))
  rintro e W3 ⟨rfl, hB⟩
  clear qR0 qR1 qR2 qR3 qR4 qR5 qR6 qRz qRl
  replace HB := Lib.hid (HB.out.trans (hB.mono HB.out.size))
  replace HT := Lib.hid (HT0.out.below HB.out)
  replace HL := Lib.hid (HL0.out.below HB.out)
  replace HS := Lib.hid (HS0.out.below HB.out)
  replace HD := Lib.hid (HD0.out.below HB.out)
  replace HR := Lib.hid (HR.out.step hB)
  clear hB
  cases C
  · skip
    go_wp2_with fail
    go_at_call 10
    go_fit (HWK.out _)
    rintro e W4 ⟨rfl, hB⟩
    replace HB := Lib.hid (HB.out.trans (hB.mono HB.out.size))
    replace HT := Lib.hid (HT0.out.below HB.out)
    replace HL := Lib.hid (HL0.out.below HB.out)
    replace HS := Lib.hid (HS0.out.below HB.out)
    replace HD := Lib.hid (HD0.out.below HB.out)
    replace HR := Lib.hid (HR.out.step hB)
    clear hB
    go_wp2_with fail
    go_ret
    exact ⟨rfl, HB.out⟩
  have hfc := HFC.out (by first | rfl | trivial)
  rw [hfc] at HFD
  have HVS := Lib.hid (vs_of HCE.out.symm)
  obtain ⟨x, hx⟩ : ∃ x, x = (fndL le s.ls).getD zLe := ⟨_, rfl⟩
  obtain ⟨ok, hok⟩ : ∃ b, b = (fndL le s.ls).isSome := ⟨_, rfl⟩
  rw [← hx, ← hok] at HFD
  unfold LeE.agg at HFD
  have HYS : Hid (ok = true → fndL le s.ls = some x) := Lib.hid (fun h => by
    cases hq : fndL le s.ls with
    | none => rw [hq, h] at hok; cases hok
    | some y => rw [hx, hq]; rfl)
  clear hfc hx hok HFC HCE
  have qR0 : W3.cell? ⟨N, 0, none⟩ = some (.int .i64 s.term) := cell_at HR.out 0
  have qR1 : W3.cell? ⟨N, 1, none⟩ = some (.int .i64 s.stamp) := cell_at HR.out 1
  have qR2 : W3.cell? ⟨N, 2, none⟩ = some (.int .i64 s.next) := cell_at HR.out 2
  have qR3 : W3.cell? ⟨N, 3, none⟩ = some (.slice ta tn tc) := cell_at HR.out 3
  have qR4 : W3.cell? ⟨N, 4, none⟩ = some (.slice la ln lc) := cell_at HR.out 4
  have qR5 : W3.cell? ⟨N, 5, none⟩ = some (.slice sa sn sc) := cell_at HR.out 5
  have qR6 : W3.cell? ⟨N, 6, none⟩ = some (.slice da dn dc) := cell_at HR.out 6
  have qRz : ∀ j, W3.frozen? ⟨N, j, none⟩ = false := fun j => free_at HR.out j
  have qRl : N < W3.heap.size := HR.out.lt
  go_wp2_with fail
  go_at_call 12
  go_fit (HFD.out _ _ (HSV.out _ HT.out HL.out HS.out HD.out))
  rintro e W4 ⟨rfl, hB⟩
  clear qR0 qR1 qR2 qR3 qR4 qR5 qR6 qRz qRl
  replace HB := Lib.hid (HB.out.trans (hB.mono HB.out.size))
  replace HT := Lib.hid (HT0.out.below HB.out)
  replace HL := Lib.hid (HL0.out.below HB.out)
  replace HS := Lib.hid (HS0.out.below HB.out)
  replace HD := Lib.hid (HD0.out.below HB.out)
  replace HR := Lib.hid (HR.out.step hB)
  clear hB
  go_upto_region 4 with fail
  obtain ⟨X9, hX9⟩ : ∃ n0, n0 = W4.heap.size := ⟨_, rfl⟩
  have HXX9HR : Hid (N < X9) := Lib.hid (by rw [hX9]; exact HR.out.lt)
  have HLOX9 : Hid (w.heap.size ≤ X9) := Lib.hid (by have := HB.out.size; omega)
  obtain ⟨W5, hA0⟩ : ∃ W0, W0 = W4.alloc (.cells #[.int .i64 x.id, .int .i64 x.tenant, .int .i64 x.shaper, .int .i64 x.epoch, .int .i64 x.number, .int .i64 x.size, .int .i64 x.spent] 31) := ⟨_, rfl⟩
  have hB : Below W4.heap.size W4 W5 := by rw [hA0]; exact (Below.refl _ _).alloc (Nat.le_refl _) _
  have hS0 : W5.heap.size = X9 + 1 := by rw [hA0]; simp [← hX9]
  have HX9 := Lib.hid (show Blk W5 X9 #[.int .i64 x.id, .int .i64 x.tenant, .int .i64 x.shaper, .int .i64 x.epoch, .int .i64 x.number, .int .i64 x.size, .int .i64 x.spent] 31 by rw [hA0, hX9]; exact blk_new _ _ _)
  replace HB := Lib.hid (HB.out.trans (hB.mono HB.out.size))
  replace HT := Lib.hid (HT0.out.below HB.out)
  replace HL := Lib.hid (HL0.out.below HB.out)
  replace HS := Lib.hid (HS0.out.below HB.out)
  replace HD := Lib.hid (HD0.out.below HB.out)
  replace HR := Lib.hid (HR.out.step hB)
  clear hB
  have HSX9 := Lib.hid hS0
  rw [← hX9, ← hA0]
  clear hA0 hX9 hS0
  cases ok
  · skip
    go_wp2_with fail
    go_at_call 10
    go_fit (HWK.out _)
    rintro e W6 ⟨rfl, hB⟩
    replace HB := Lib.hid (HB.out.trans (hB.mono HB.out.size))
    replace HT := Lib.hid (HT0.out.below HB.out)
    replace HL := Lib.hid (HL0.out.below HB.out)
    replace HS := Lib.hid (HS0.out.below HB.out)
    replace HD := Lib.hid (HD0.out.below HB.out)
    replace HR := Lib.hid (HR.out.step hB)
    replace HX9 := Lib.hid (HX9.out.step hB)
    clear hB
    go_wp2_with fail
    go_ret
    exact ⟨rfl, HB.out⟩
  have HFX := Lib.hid (HYS.out (by first | rfl | trivial))
  clear HYS
  have qX90 : W5.cell? ⟨X9, 0, none⟩ = some (.int .i64 x.id) := cell_at HX9.out 0
  have qX91 : W5.cell? ⟨X9, 1, none⟩ = some (.int .i64 x.tenant) := cell_at HX9.out 1
  have qX92 : W5.cell? ⟨X9, 2, none⟩ = some (.int .i64 x.shaper) := cell_at HX9.out 2
  have qX93 : W5.cell? ⟨X9, 3, none⟩ = some (.int .i64 x.epoch) := cell_at HX9.out 3
  have qX94 : W5.cell? ⟨X9, 4, none⟩ = some (.int .i64 x.number) := cell_at HX9.out 4
  have qX95 : W5.cell? ⟨X9, 5, none⟩ = some (.int .i64 x.size) := cell_at HX9.out 5
  have qX96 : W5.cell? ⟨X9, 6, none⟩ = some (.int .i64 x.spent) := cell_at HX9.out 6
  have qX9z : ∀ j, W5.frozen? ⟨X9, j, none⟩ = false := fun j => free_at HX9.out j
  have qX9l : X9 < W5.heap.size := HX9.out.lt
  have qR0 : W5.cell? ⟨N, 0, none⟩ = some (.int .i64 s.term) := cell_at HR.out 0
  have qR1 : W5.cell? ⟨N, 1, none⟩ = some (.int .i64 s.stamp) := cell_at HR.out 1
  have qR2 : W5.cell? ⟨N, 2, none⟩ = some (.int .i64 s.next) := cell_at HR.out 2
  have qR3 : W5.cell? ⟨N, 3, none⟩ = some (.slice ta tn tc) := cell_at HR.out 3
  have qR4 : W5.cell? ⟨N, 4, none⟩ = some (.slice la ln lc) := cell_at HR.out 4
  have qR5 : W5.cell? ⟨N, 5, none⟩ = some (.slice sa sn sc) := cell_at HR.out 5
  have qR6 : W5.cell? ⟨N, 6, none⟩ = some (.slice da dn dc) := cell_at HR.out 6
  have qRz : ∀ j, W5.frozen? ⟨N, j, none⟩ = false := fun j => free_at HR.out j
  have qRl : N < W5.heap.size := HR.out.lt
  go_upto_region 8 with fail
  clear qX90 qX91 qX92 qX93 qX94 qX95 qX96 qX9z qX9l qR0 qR1 qR2 qR3 qR4 qR5 qR6 qRz qRl
  obtain ⟨U9, hU9⟩ : ∃ n0, n0 = W5.heap.size := ⟨_, rfl⟩
  have HXU9HR : Hid (N < U9) := Lib.hid (by rw [hU9]; exact HR.out.lt)
  have HXU9HX9 : Hid (X9 < U9) := Lib.hid (by rw [hU9]; exact HX9.out.lt)
  have HLOU9 : Hid (w.heap.size ≤ U9) := Lib.hid (by have := HB.out.size; omega)
  obtain ⟨W6, hA0⟩ : ∃ W0, W0 = W5.alloc (.cells #[.int .i64 s.term, .int .i64 s.stamp, .int .i64 s.next, .slice ta tn tc, .slice la ln lc, .slice sa sn sc, .slice da dn dc] 27) := ⟨_, rfl⟩
  have hB : Below W5.heap.size W5 W6 := by rw [hA0]; exact (Below.refl _ _).alloc (Nat.le_refl _) _
  have hS0 : W6.heap.size = U9 + 1 := by rw [hA0]; simp [← hU9]
  have HU := Lib.hid (show Blk W6 U9 #[.int .i64 s.term, .int .i64 s.stamp, .int .i64 s.next, .slice ta tn tc, .slice la ln lc, .slice sa sn sc, .slice da dn dc] 27 by rw [hA0, hU9]; exact blk_new _ _ _)
  replace HB := Lib.hid (HB.out.trans (hB.mono HB.out.size))
  replace HT := Lib.hid (HT0.out.below HB.out)
  replace HL := Lib.hid (HL0.out.below HB.out)
  replace HS := Lib.hid (HS0.out.below HB.out)
  replace HD := Lib.hid (HD0.out.below HB.out)
  replace HR := Lib.hid (HR.out.step hB)
  replace HX9 := Lib.hid (HX9.out.step hB)
  clear hB
  have HSU9 := Lib.hid hS0
  rw [← hU9, ← hA0]
  clear hA0 hU9 hS0
  have HV := Lib.hid (HSV.out _ HT.out HL.out HS.out HD.out)
  have qU0 : W6.cell? ⟨U9, 0, none⟩ = some (.int .i64 s.term) := cell_at HU.out 0
  have qU1 : W6.cell? ⟨U9, 1, none⟩ = some (.int .i64 s.stamp) := cell_at HU.out 1
  have qU2 : W6.cell? ⟨U9, 2, none⟩ = some (.int .i64 s.next) := cell_at HU.out 2
  have qU3 : W6.cell? ⟨U9, 3, none⟩ = some (.slice ta tn tc) := cell_at HU.out 3
  have qU4 : W6.cell? ⟨U9, 4, none⟩ = some (.slice la ln lc) := cell_at HU.out 4
  have qU5 : W6.cell? ⟨U9, 5, none⟩ = some (.slice sa sn sc) := cell_at HU.out 5
  have qU6 : W6.cell? ⟨U9, 6, none⟩ = some (.slice da dn dc) := cell_at HU.out 6
  have qUz : ∀ j, W6.frozen? ⟨U9, j, none⟩ = false := fun j => free_at HU.out j
  have qUl : U9 < W6.heap.size := HU.out.lt
  have qX90 : W6.cell? ⟨X9, 0, none⟩ = some (.int .i64 x.id) := cell_at HX9.out 0
  have qX91 : W6.cell? ⟨X9, 1, none⟩ = some (.int .i64 x.tenant) := cell_at HX9.out 1
  have qX92 : W6.cell? ⟨X9, 2, none⟩ = some (.int .i64 x.shaper) := cell_at HX9.out 2
  have qX93 : W6.cell? ⟨X9, 3, none⟩ = some (.int .i64 x.epoch) := cell_at HX9.out 3
  have qX94 : W6.cell? ⟨X9, 4, none⟩ = some (.int .i64 x.number) := cell_at HX9.out 4
  have qX95 : W6.cell? ⟨X9, 5, none⟩ = some (.int .i64 x.size) := cell_at HX9.out 5
  have qX96 : W6.cell? ⟨X9, 6, none⟩ = some (.int .i64 x.spent) := cell_at HX9.out 6
  have qX9z : ∀ j, W6.frozen? ⟨X9, j, none⟩ = false := fun j => free_at HX9.out j
  have qX9l : X9 < W6.heap.size := HX9.out.lt
  go_wp2_with fail
  clear qU0 qU1 qU2 qU3 qU4 qU5 qU6 qUz qUl qX90 qX91 qX92 qX93 qX94 qX95 qX96 qX9z qX9l
  go_loopw [9, 11] (fun m k wr => ∃ (i : Nat) (most : Int) (tt : StE) (tta tla tsa tda : Option Addr) (ttn ttc tln tlc tsn tsc tdn tdc : Nat), i ≤ iN ∧ k = .int .i64 i ∧ m = .int .i64 most ∧ LateI s x le most tt ∧ Blk wr U9 #[.int .i64 tt.term, .int .i64 tt.stamp, .int .i64 tt.next, .slice tta ttn ttc, .slice tla tln tlc, .slice tsa tsn tsc, .slice tda tdn tdc] 27 ∧ SV wr (.agg #[.int .i64 tt.term, .int .i64 tt.stamp, .int .i64 tt.next, .slice tta ttn ttc, .slice tla tln tlc, .slice tsa tsn tsc, .slice tda tdn tdc]) tt ∧ FrB W6.heap.size [U9] W6 wr) (fun _ k _ => iN - (intOf k).toNat)
  case atStart => exact ⟨0, x.spent, s, _, _, _, _, _, _, _, _, _, _, _, _, Nat.zero_le _, rfl, rfl, .inl ⟨rfl, rfl⟩, HU.out, HV.out, FrB.refl _ _ _⟩
  case round =>
    obtain ⟨i, most, tt, tta, tla, tsa, tda, ttn, ttc, tln, tlc, tsn, tsc, tdn, tdc, hi, rfl, rfl, hI, hu, hv, hfrb⟩ := hrel
    have HII := Lib.hid hI
    have HFRB : Hid (FrB W6.heap.size [U9] W6 wr) := Lib.hid hfrb
    replace HB := Lib.hid (HB.out.trans (hfrb.below HB.out.size (by have := HLOU9.out; simp; omega)))
    replace HR := Lib.hid (show Blk wr N _ _ from (hfrb.block _ HR.out.lt (by have := HXU9HR.out; simp; omega)).trans HR.out)
    replace HX9 := Lib.hid (show Blk wr X9 _ _ from (hfrb.block _ HX9.out.lt (by have := HXU9HX9.out; simp; omega)).trans HX9.out)
    replace HU := Lib.hid hu
    replace HV := Lib.hid hv
    clear hI hu hv hfrb
    replace HT := Lib.hid (HT0.out.below HB.out)
    replace HL := Lib.hid (HL0.out.below HB.out)
    replace HS := Lib.hid (HS0.out.below HB.out)
    replace HD := Lib.hid (HD0.out.below HB.out)
    by_cases hk : i < iN
    · skip
      have b9 : (i < iN) = True := eq_true hk
      obtain ⟨g, o, n9, ea, g1, g2, c0, c1, c2⟩ := HI0.out.at i hk
      subst ea
      have ww5 : IntKind.i64.wrap ((i : Int) + 1) = (i : Int) + 1 := IntWalk.i64_in _ (by omega)
      have HCS := Lib.hid (show ∀ X, Below w.heap.size w X → X.cell? ⟨g, o + i, none⟩ = some (.int .i64 n9) ∧ g < X.heap.size from fun X hX => ⟨(hX.cell (p := ⟨g, o + i, none⟩) g1).trans c0, Nat.lt_of_lt_of_le g1 hX.size⟩)
      clear g2 c0
      by_cases h1 : x.spent ≤ n9
      · skip
        have d1 : decide (x.spent ≤ n9) = true := decide_eq_true h1
        by_cases h2 : n9 ≤ x.size
        · skip
          have d2 : decide (n9 ≤ x.size) = true := decide_eq_true h2
          obtain ⟨m2, hm2⟩ : ∃ m, m = if most < n9 then n9 else most := ⟨_, rfl⟩
          have hmx : (if most < n9 then n9 else most) = m2 := hm2.symm
          have HST := Lib.hid (HII.out.step HVS.out HFX.out h1 h2)
          rw [← hm2] at HST
          have HRP := Lib.hid (fun W v (h : SV W v tt) => report_any v tt x.shaper x.epoch le n9 false W h (HII.out.few HFW.out) ⟨c1, c2⟩)
          obtain ⟨t2, ht2⟩ : ∃ t, t = rpS tt x.shaper x.epoch le n9 false := ⟨_, rfl⟩
          rw [← ht2] at HST HRP
          obtain ⟨er, her⟩ : ∃ t, t = rpE tt x.shaper x.epoch le n9 := ⟨_, rfl⟩
          rw [← her] at HRP
          have HM2 := Lib.hid hmx
          clear hm2 ht2 her hmx
          have qX90 : wr.cell? ⟨X9, 0, none⟩ = some (.int .i64 x.id) := cell_at HX9.out 0
          have qX91 : wr.cell? ⟨X9, 1, none⟩ = some (.int .i64 x.tenant) := cell_at HX9.out 1
          have qX92 : wr.cell? ⟨X9, 2, none⟩ = some (.int .i64 x.shaper) := cell_at HX9.out 2
          have qX93 : wr.cell? ⟨X9, 3, none⟩ = some (.int .i64 x.epoch) := cell_at HX9.out 3
          have qX94 : wr.cell? ⟨X9, 4, none⟩ = some (.int .i64 x.number) := cell_at HX9.out 4
          have qX95 : wr.cell? ⟨X9, 5, none⟩ = some (.int .i64 x.size) := cell_at HX9.out 5
          have qX96 : wr.cell? ⟨X9, 6, none⟩ = some (.int .i64 x.spent) := cell_at HX9.out 6
          have qX9z : ∀ j, wr.frozen? ⟨X9, j, none⟩ = false := fun j => free_at HX9.out j
          have qX9l : X9 < wr.heap.size := HX9.out.lt
          obtain ⟨c0, g1x⟩ := HCS.out wr HB.out
          go_wp2_with fail
          (refine wp_region_quiet_lit (by kernel_rfl) (by kernel_rfl) ?_; (repeat (first | go_big_quiet_step (fail) | (refine BigFrame.wpQuiet_skip (by rfl) ?_; try simp only [Act.put, List.setIfInBounds_toArray, List.set_cons_zero, List.set_cons_succ]))); refine wpQuiet_nil ?_; intro _ hw9; obtain ⟨nq, hw8⟩ := hw9; subst hw8)
          clear qX90 qX91 qX92 qX93 qX94 qX95 qX96 qX9z qX9l c0 g1x
          obtain ⟨W7, hWn⟩ : ∃ X, X = wr.drewN nq := ⟨_, rfl⟩
          rw [← hWn]
          have hB : Below wr.heap.size wr W7 := by rw [hWn]; exact dN _ _
          clear hWn
          replace HB := Lib.hid (HB.out.trans (hB.mono HB.out.size))
          replace HT := Lib.hid (HT0.out.below HB.out)
          replace HL := Lib.hid (HL0.out.below HB.out)
          replace HS := Lib.hid (HS0.out.below HB.out)
          replace HD := Lib.hid (HD0.out.below HB.out)
          replace HR := Lib.hid (HR.out.step hB)
          replace HX9 := Lib.hid (HX9.out.step hB)
          replace HU := Lib.hid (HU.out.step hB)
          replace HFRB := Lib.hid (HFRB.out.trans (FrB.of_below hB HFRB.out.size))
          replace HV := Lib.hid (HV.out.below hB)
          clear hB
          have hmx := HM2.out
          have qX90 : W7.cell? ⟨X9, 0, none⟩ = some (.int .i64 x.id) := cell_at HX9.out 0
          have qX91 : W7.cell? ⟨X9, 1, none⟩ = some (.int .i64 x.tenant) := cell_at HX9.out 1
          have qX92 : W7.cell? ⟨X9, 2, none⟩ = some (.int .i64 x.shaper) := cell_at HX9.out 2
          have qX93 : W7.cell? ⟨X9, 3, none⟩ = some (.int .i64 x.epoch) := cell_at HX9.out 3
          have qX94 : W7.cell? ⟨X9, 4, none⟩ = some (.int .i64 x.number) := cell_at HX9.out 4
          have qX95 : W7.cell? ⟨X9, 5, none⟩ = some (.int .i64 x.size) := cell_at HX9.out 5
          have qX96 : W7.cell? ⟨X9, 6, none⟩ = some (.int .i64 x.spent) := cell_at HX9.out 6
          have qX9z : ∀ j, W7.frozen? ⟨X9, j, none⟩ = false := fun j => free_at HX9.out j
          have qX9l : X9 < W7.heap.size := HX9.out.lt
          obtain ⟨c0, g1x⟩ := HCS.out W7 HB.out
          go_wp2_with fail
          clear hmx
          clear qX90 qX91 qX92 qX93 qX94 qX95 qX96 qX9z qX9l c0 g1x
          refine wp_region_held_drew (S := fun X => (X.cell? ⟨X9, 0, none⟩ = some (.int .i64 x.id) ∧ X.cell? ⟨X9, 1, none⟩ = some (.int .i64 x.tenant) ∧ X.cell? ⟨X9, 2, none⟩ = some (.int .i64 x.shaper) ∧ X.cell? ⟨X9, 3, none⟩ = some (.int .i64 x.epoch) ∧ X.cell? ⟨X9, 4, none⟩ = some (.int .i64 x.number) ∧ X.cell? ⟨X9, 5, none⟩ = some (.int .i64 x.size) ∧ X.cell? ⟨X9, 6, none⟩ = some (.int .i64 x.spent) ∧ X9 < X.heap.size) ∧ (X.cell? ⟨g, o + i, none⟩ = some (.int .i64 n9) ∧ g < X.heap.size)) (by kernel_rfl) ⟨⟨cell_at HX9.out 0, cell_at HX9.out 1, cell_at HX9.out 2, cell_at HX9.out 3, cell_at HX9.out 4, cell_at HX9.out 5, cell_at HX9.out 6, HX9.out.lt⟩, HCS.out _ (by first | exact HB.out | exact HB.out.drew)⟩ (fun hHeld => ?_)
          ((refine wpAnyH_take (i := 1) (v := ?_) (by (simp only [List.getElem?_toArray, List.getElem?_cons_succ, List.getElem?_cons_zero]); rfl) (by kernel_rfl) (by kernel_rfl) (by kernel_rfl) (by exact fun _ _ _ h => h) (Or.inl ⟨by rfl, ?_⟩) (by assumption) ?_); rotate_left; focus (intro wS hSw; (try dsimp only at hSw); go_simp; first | done | with_reducible rfl); try simp only [Act.put, List.setIfInBounds_toArray, List.set_cons_zero, List.set_cons_succ])
          ((refine wpAnyH_take (i := 2) (v := ?_) (by (simp only [List.getElem?_toArray, List.getElem?_cons_succ, List.getElem?_cons_zero]); rfl) (by kernel_rfl) (by kernel_rfl) (by kernel_rfl) (by exact fun _ _ _ h => h) (Or.inl ⟨by rfl, ?_⟩) (by assumption) ?_); rotate_left; focus (intro wS hSw; (try dsimp only at hSw); go_simp; first | done | with_reducible rfl); try simp only [Act.put, List.setIfInBounds_toArray, List.set_cons_zero, List.set_cons_succ])
          ((refine wpAnyH_take (i := 3) (v := ?_) (by (simp only [List.getElem?_toArray, List.getElem?_cons_succ, List.getElem?_cons_zero]); rfl) (by kernel_rfl) (by kernel_rfl) (by kernel_rfl) (by exact fun _ _ _ h => h) (Or.inl ⟨by rfl, ?_⟩) (by assumption) ?_); rotate_left; focus (intro wS hSw; (try dsimp only at hSw); go_simp; first | done | with_reducible rfl); try simp only [Act.put, List.setIfInBounds_toArray, List.set_cons_zero, List.set_cons_succ])
          ((refine wpAnyH_take (i := 4) (v := ?_) (by (simp only [List.getElem?_toArray, List.getElem?_cons_succ, List.getElem?_cons_zero]); rfl) (by kernel_rfl) (by kernel_rfl) (by kernel_rfl) (by exact fun _ _ _ h => h) (Or.inl ⟨by rfl, ?_⟩) (by assumption) ?_); rotate_left; focus (intro wS hSw; (try dsimp only at hSw); go_simp; first | done | with_reducible rfl); try simp only [Act.put, List.setIfInBounds_toArray, List.set_cons_zero, List.set_cons_succ])
          ((refine wpAnyH_take (i := 5) (v := ?_) (by (simp only [List.getElem?_toArray, List.getElem?_cons_succ, List.getElem?_cons_zero]); rfl) (by kernel_rfl) (by kernel_rfl) (by kernel_rfl) (by exact fun _ _ _ h => h) (Or.inl ⟨by rfl, ?_⟩) (by assumption) ?_); rotate_left; focus (intro wS hSw; (try dsimp only at hSw); go_simp; first | done | with_reducible rfl); try simp only [Act.put, List.setIfInBounds_toArray, List.set_cons_zero, List.set_cons_succ])
          ((refine wpAnyH_take (i := 6) (v := ?_) (by (simp only [List.getElem?_toArray, List.getElem?_cons_succ, List.getElem?_cons_zero]); rfl) (by kernel_rfl) (by kernel_rfl) (by kernel_rfl) (by exact fun _ _ _ h => h) (Or.inl ⟨by rfl, ?_⟩) (by assumption) ?_); rotate_left; focus (intro wS hSw; (try dsimp only at hSw); go_simp; first | done | with_reducible rfl); try simp only [Act.put, List.setIfInBounds_toArray, List.set_cons_zero, List.set_cons_succ])
          ((refine wpAnyH_take (i := 7) (v := ?_) (by (simp only [List.getElem?_toArray, List.getElem?_cons_succ, List.getElem?_cons_zero]); rfl) (by kernel_rfl) (by kernel_rfl) (by kernel_rfl) (by exact fun _ _ _ h => h) (Or.inl ⟨by rfl, ?_⟩) (by assumption) ?_); rotate_left; focus (intro wS hSw; (try dsimp only at hSw); go_simp; first | done | with_reducible rfl); try simp only [Act.put, List.setIfInBounds_toArray, List.set_cons_zero, List.set_cons_succ])
          ((refine wpAnyH_take (i := 8) (v := ?_) (by (simp only [List.getElem?_toArray, List.getElem?_cons_succ, List.getElem?_cons_zero]); rfl) (by kernel_rfl) (by kernel_rfl) (by kernel_rfl) (by exact fun _ _ _ h => h) (Or.inl ⟨by rfl, ?_⟩) (by assumption) ?_); rotate_left; focus (intro wS hSw; (try dsimp only at hSw); go_simp; first | done | with_reducible rfl); try simp only [Act.put, List.setIfInBounds_toArray, List.set_cons_zero, List.set_cons_succ])
          ((refine wpAnyH_take (i := 9) (v := ?_) (by (simp only [List.getElem?_toArray, List.getElem?_cons_succ, List.getElem?_cons_zero]); rfl) (by kernel_rfl) (by kernel_rfl) (by kernel_rfl) (by exact fun _ _ _ h => h) (Or.inl ⟨by rfl, ?_⟩) (by assumption) ?_); rotate_left; focus (intro wS hSw; (try dsimp only at hSw); go_simp; first | done | with_reducible rfl); try simp only [Act.put, List.setIfInBounds_toArray, List.set_cons_zero, List.set_cons_succ])
          refine wpAnyH_ready (rs := [0]) (by kernel_rfl) (by simp) ?_
          refine AllReadyH.cons (by (simp only [List.getElem?_toArray, List.getElem?_cons_succ, List.getElem?_cons_zero]); rfl) (fun K hK => ?_) AllReadyH.nil
          have qU0 : W7.cell? ⟨U9, 0, none⟩ = some (.int .i64 tt.term) := cell_at HU.out 0
          have qU1 : W7.cell? ⟨U9, 1, none⟩ = some (.int .i64 tt.stamp) := cell_at HU.out 1
          have qU2 : W7.cell? ⟨U9, 2, none⟩ = some (.int .i64 tt.next) := cell_at HU.out 2
          have qU3 : W7.cell? ⟨U9, 3, none⟩ = some (.slice tta ttn ttc) := cell_at HU.out 3
          have qU4 : W7.cell? ⟨U9, 4, none⟩ = some (.slice tla tln tlc) := cell_at HU.out 4
          have qU5 : W7.cell? ⟨U9, 5, none⟩ = some (.slice tsa tsn tsc) := cell_at HU.out 5
          have qU6 : W7.cell? ⟨U9, 6, none⟩ = some (.slice tda tdn tdc) := cell_at HU.out 6
          have qUz : ∀ j, W7.frozen? ⟨U9, j, none⟩ = false := fun j => free_at HU.out j
          have qUl : U9 < W7.heap.size := HU.out.lt
          rw [if_pos (by rfl)]
          go_simp
          refine hK.out _ _ ⟨⟨cell_at HX9.out 0, cell_at HX9.out 1, cell_at HX9.out 2, cell_at HX9.out 3, cell_at HX9.out 4, cell_at HX9.out 5, cell_at HX9.out 6, HX9.out.lt⟩, HCS.out _ (by first | exact HB.out | exact HB.out.drew)⟩ (fun hHeld => ?_)
          clear hK K
          clear qU0 qU1 qU2 qU3 qU4 qU5 qU6 qUz qUl
          try simp only [Act.put, List.setIfInBounds_toArray, List.set_cons_zero, List.set_cons_succ]
          refine wpAnyH_ready (rs := [10]) (by kernel_rfl) (by simp) ?_
          refine AllReadyH.cons (by (simp only [List.getElem?_toArray, List.getElem?_cons_succ, List.getElem?_cons_zero]); rfl) (fun K hK => ?_) AllReadyH.nil
          go_simp
          go_fit (HRP.out _ _ (HV.out.below (Below.refl _ _).drew))
          rintro e W8 ⟨v6, rfl, hv6, hB⟩
          replace hB := below_undrew hB
          replace HB := Lib.hid (HB.out.trans (hB.mono HB.out.size))
          replace HT := Lib.hid (HT0.out.below HB.out)
          replace HL := Lib.hid (HL0.out.below HB.out)
          replace HS := Lib.hid (HS0.out.below HB.out)
          replace HD := Lib.hid (HD0.out.below HB.out)
          replace HR := Lib.hid (HR.out.step hB)
          replace HX9 := Lib.hid (HX9.out.step hB)
          replace HU := Lib.hid (HU.out.step hB)
          replace HFRB := Lib.hid (HFRB.out.trans (FrB.of_below hB HFRB.out.size))
          replace HV := Lib.hid (HV.out.below hB)
          have HV6 := Lib.hid hv6
          go_wp2_with fail
          refine hK.out _ _ ⟨⟨cell_at HX9.out 0, cell_at HX9.out 1, cell_at HX9.out 2, cell_at HX9.out 3, cell_at HX9.out 4, cell_at HX9.out 5, cell_at HX9.out 6, HX9.out.lt⟩, HCS.out _ (by first | exact HB.out | exact HB.out.drew)⟩ (fun hHeld => ?_)
          clear hK K hB hv6
          try simp only [Act.put, List.setIfInBounds_toArray, List.set_cons_zero, List.set_cons_succ]
          obtain ⟨xt, xl, xs, xd, rfl, ht6, hl6, hs6, hd6⟩ := HV6.out
          obtain ⟨ta6, tn6, tc6, rfl, _, _, _⟩ := ht6.sh
          obtain ⟨la6, ln6, lc6, rfl, _, _, _⟩ := hl6.sh
          obtain ⟨sa6, sn6, sc6, rfl, _, _, _⟩ := hs6.sh
          obtain ⟨da6, dn6, dc6, rfl, _, _, _⟩ := hd6.sh
          clear ht6 hl6 hs6 hd6
          ((refine wpAnyH_take (i := 11) (v := ?_) (by (simp only [List.getElem?_toArray, List.getElem?_cons_succ, List.getElem?_cons_zero]); rfl) (by kernel_rfl) (by kernel_rfl) (by kernel_rfl) (by exact fun _ _ _ h => h) (Or.inl ⟨by rfl, ?_⟩) (by assumption) ?_); rotate_left; focus (intro wS hSw; (try dsimp only at hSw); go_simp; first | done | with_reducible rfl); try simp only [Act.put, List.setIfInBounds_toArray, List.set_cons_zero, List.set_cons_succ])
          ((refine wpAnyH_take (i := 12) (v := ?_) (by (simp only [List.getElem?_toArray, List.getElem?_cons_succ, List.getElem?_cons_zero]); rfl) (by kernel_rfl) (by kernel_rfl) (by kernel_rfl) (by exact fun _ _ _ h => h) (Or.inl ⟨by rfl, ?_⟩) (by assumption) ?_); rotate_left; focus (intro wS hSw; (try dsimp only at hSw); go_simp; first | done | with_reducible rfl); try simp only [Act.put, List.setIfInBounds_toArray, List.set_cons_zero, List.set_cons_succ])
          ((refine wpAnyH_take (i := 13) (v := ?_) (by (simp only [List.getElem?_toArray, List.getElem?_cons_succ, List.getElem?_cons_zero]); rfl) (by kernel_rfl) (by kernel_rfl) (by kernel_rfl) (by exact fun _ _ _ h => h) (Or.inl ⟨by rfl, ?_⟩) (by assumption) ?_); rotate_left; focus (intro wS hSw; (try dsimp only at hSw); go_simp; first | done | with_reducible rfl); try simp only [Act.put, List.setIfInBounds_toArray, List.set_cons_zero, List.set_cons_succ])
          refine wpAnyH_ready (rs := [14]) (by kernel_rfl) (by simp) ?_
          refine AllReadyH.cons (by (simp only [List.getElem?_toArray, List.getElem?_cons_succ, List.getElem?_cons_zero]); rfl) (fun K hK => ?_) AllReadyH.nil
          have qU0 : W8.cell? ⟨U9, 0, none⟩ = some (.int .i64 tt.term) := cell_at HU.out 0
          have qU1 : W8.cell? ⟨U9, 1, none⟩ = some (.int .i64 tt.stamp) := cell_at HU.out 1
          have qU2 : W8.cell? ⟨U9, 2, none⟩ = some (.int .i64 tt.next) := cell_at HU.out 2
          have qU3 : W8.cell? ⟨U9, 3, none⟩ = some (.slice tta ttn ttc) := cell_at HU.out 3
          have qU4 : W8.cell? ⟨U9, 4, none⟩ = some (.slice tla tln tlc) := cell_at HU.out 4
          have qU5 : W8.cell? ⟨U9, 5, none⟩ = some (.slice tsa tsn tsc) := cell_at HU.out 5
          have qU6 : W8.cell? ⟨U9, 6, none⟩ = some (.slice tda tdn tdc) := cell_at HU.out 6
          have qUz : ∀ j, W8.frozen? ⟨U9, j, none⟩ = false := fun j => free_at HU.out j
          have qUl : U9 < W8.heap.size := HU.out.lt
          rw [if_pos (by rfl)]
          go_simp
          clear qU0 qU1 qU2 qU3 qU4 qU5 qU6 qUz qUl
          obtain ⟨LS, hLS⟩ : ∃ L : List Value, L = [.int .i64 t2.term, .int .i64 t2.stamp, .int .i64 t2.next, .slice ta6 tn6 tc6, .slice la6 ln6 lc6, .slice sa6 sn6 sc6, .slice da6 dn6 dc6] := ⟨_, rfl⟩
          obtain ⟨W9, hWS⟩ : ∃ WS, WS = W8.setCells U9 0 LS := ⟨_, rfl⟩
          have hch := hWS
          rw [hLS] at hch
          simp only [World.setCells, Nat.zero_add, Nat.reduceAdd] at hch
          rw [← hch]
          clear hch
          have hkS := stC_blk HU.out LS (by rw [hLS]; rfl)
          have hfS := stC_fr U9 LS 0 W8
          rw [← hWS] at hkS hfS
          rw [hLS] at hkS
          replace HB := Lib.hid (HB.out.trans (hfS.below HB.out.size (by have := HLOU9.out; simp; try omega)))
          replace HT := Lib.hid (HT0.out.below HB.out)
          replace HL := Lib.hid (HL0.out.below HB.out)
          replace HS := Lib.hid (HS0.out.below HB.out)
          replace HD := Lib.hid (HD0.out.below HB.out)
          replace HR := Lib.hid (show Blk W9 N #[.int .i64 s.term, .int .i64 s.stamp, .int .i64 s.next, .slice ta tn tc, .slice la ln lc, .slice sa sn sc, .slice da dn dc] 27 from (hfS.block _ HR.out.lt (by have hx0 := HXX9HR.out; have hx1 := HXU9HR.out; have hx2 := HXU9HX9.out; simp; try omega)).trans HR.out)
          replace HX9 := Lib.hid (show Blk W9 X9 #[.int .i64 x.id, .int .i64 x.tenant, .int .i64 x.shaper, .int .i64 x.epoch, .int .i64 x.number, .int .i64 x.size, .int .i64 x.spent] 31 from (hfS.block _ HX9.out.lt (by have hx0 := HXX9HR.out; have hx1 := HXU9HR.out; have hx2 := HXU9HX9.out; simp; try omega)).trans HX9.out)
          replace HFRB := Lib.hid (HFRB.out.trans (FrB.of_fr hfS HFRB.out.size))
          replace HV6 := Lib.hid (HV6.out.fr HU.out hfS rfl rfl)
          replace HU := Lib.hid (show Blk W9 U9 #[.int .i64 t2.term, .int .i64 t2.stamp, .int .i64 t2.next, .slice ta6 tn6 tc6, .slice la6 ln6 lc6, .slice sa6 sn6 sc6, .slice da6 dn6 dc6] 27 from hkS)
          clear hWS hLS hkS hfS
          refine hK.out _ _ ⟨⟨cell_at HX9.out 0, cell_at HX9.out 1, cell_at HX9.out 2, cell_at HX9.out 3, cell_at HX9.out 4, cell_at HX9.out 5, cell_at HX9.out 6, HX9.out.lt⟩, HCS.out _ (by first | exact HB.out | exact HB.out.drew)⟩ (fun hHeld => ?_)
          clear hK K
          replace HV := HV6
          refine wpAnyH_done (by kernel_rfl) ?_ _
          try simp only [Act.put, List.setIfInBounds_toArray, List.set_cons_zero, List.set_cons_succ]
          go_wp2_with fail
          go_roundw
          case rel => exact ⟨i + 1, _, _, _, _, _, _, _, _, _, _, _, _, _, _, by omega, by go_num, rfl, HST.out, HU.out, HV.out, HFRB.out⟩
          case measure => first | (simp [intOf]; done) | (simp [intOf]; omega)
        · skip
          have d2 : decide (n9 ≤ x.size) = false := decide_eq_false h2
          have qX90 : wr.cell? ⟨X9, 0, none⟩ = some (.int .i64 x.id) := cell_at HX9.out 0
          have qX91 : wr.cell? ⟨X9, 1, none⟩ = some (.int .i64 x.tenant) := cell_at HX9.out 1
          have qX92 : wr.cell? ⟨X9, 2, none⟩ = some (.int .i64 x.shaper) := cell_at HX9.out 2
          have qX93 : wr.cell? ⟨X9, 3, none⟩ = some (.int .i64 x.epoch) := cell_at HX9.out 3
          have qX94 : wr.cell? ⟨X9, 4, none⟩ = some (.int .i64 x.number) := cell_at HX9.out 4
          have qX95 : wr.cell? ⟨X9, 5, none⟩ = some (.int .i64 x.size) := cell_at HX9.out 5
          have qX96 : wr.cell? ⟨X9, 6, none⟩ = some (.int .i64 x.spent) := cell_at HX9.out 6
          have qX9z : ∀ j, wr.frozen? ⟨X9, j, none⟩ = false := fun j => free_at HX9.out j
          have qX9l : X9 < wr.heap.size := HX9.out.lt
          obtain ⟨c0, g1x⟩ := HCS.out wr HB.out
          go_wp2_with fail
          (refine wp_region_quiet_lit (by kernel_rfl) (by kernel_rfl) ?_; (repeat (first | go_big_quiet_step (fail) | (refine BigFrame.wpQuiet_skip (by rfl) ?_; try simp only [Act.put, List.setIfInBounds_toArray, List.set_cons_zero, List.set_cons_succ]))); refine wpQuiet_nil ?_; intro _ hw9; obtain ⟨nq, hw8⟩ := hw9; subst hw8)
          clear qX90 qX91 qX92 qX93 qX94 qX95 qX96 qX9z qX9l c0 g1x
          obtain ⟨W7, hWn⟩ : ∃ X, X = wr.drewN nq := ⟨_, rfl⟩
          rw [← hWn]
          have hB : Below wr.heap.size wr W7 := by rw [hWn]; exact dN _ _
          clear hWn
          replace HB := Lib.hid (HB.out.trans (hB.mono HB.out.size))
          replace HT := Lib.hid (HT0.out.below HB.out)
          replace HL := Lib.hid (HL0.out.below HB.out)
          replace HS := Lib.hid (HS0.out.below HB.out)
          replace HD := Lib.hid (HD0.out.below HB.out)
          replace HR := Lib.hid (HR.out.step hB)
          replace HX9 := Lib.hid (HX9.out.step hB)
          replace HU := Lib.hid (HU.out.step hB)
          replace HFRB := Lib.hid (HFRB.out.trans (FrB.of_below hB HFRB.out.size))
          replace HV := Lib.hid (HV.out.below hB)
          clear hB
          go_wp2_with fail
          go_roundw
          case rel => exact ⟨i + 1, _, _, _, _, _, _, _, _, _, _, _, _, _, _, by omega, by go_num, rfl, HII.out, HU.out, HV.out, HFRB.out⟩
          case measure => first | (simp [intOf]; done) | (simp [intOf]; omega)
      · skip
        have d1 : decide (x.spent ≤ n9) = false := decide_eq_false h1
        have qX90 : wr.cell? ⟨X9, 0, none⟩ = some (.int .i64 x.id) := cell_at HX9.out 0
        have qX91 : wr.cell? ⟨X9, 1, none⟩ = some (.int .i64 x.tenant) := cell_at HX9.out 1
        have qX92 : wr.cell? ⟨X9, 2, none⟩ = some (.int .i64 x.shaper) := cell_at HX9.out 2
        have qX93 : wr.cell? ⟨X9, 3, none⟩ = some (.int .i64 x.epoch) := cell_at HX9.out 3
        have qX94 : wr.cell? ⟨X9, 4, none⟩ = some (.int .i64 x.number) := cell_at HX9.out 4
        have qX95 : wr.cell? ⟨X9, 5, none⟩ = some (.int .i64 x.size) := cell_at HX9.out 5
        have qX96 : wr.cell? ⟨X9, 6, none⟩ = some (.int .i64 x.spent) := cell_at HX9.out 6
        have qX9z : ∀ j, wr.frozen? ⟨X9, j, none⟩ = false := fun j => free_at HX9.out j
        have qX9l : X9 < wr.heap.size := HX9.out.lt
        obtain ⟨c0, g1x⟩ := HCS.out wr HB.out
        go_wp2_with fail
        (refine wp_region_quiet_lit (by kernel_rfl) (by kernel_rfl) ?_; (repeat (first | go_big_quiet_step (fail) | (refine BigFrame.wpQuiet_skip (by rfl) ?_; try simp only [Act.put, List.setIfInBounds_toArray, List.set_cons_zero, List.set_cons_succ]))); refine wpQuiet_nil ?_; intro _ hw9; obtain ⟨nq, hw8⟩ := hw9; subst hw8)
        clear qX90 qX91 qX92 qX93 qX94 qX95 qX96 qX9z qX9l c0 g1x
        obtain ⟨W7, hWn⟩ : ∃ X, X = wr.drewN nq := ⟨_, rfl⟩
        rw [← hWn]
        have hB : Below wr.heap.size wr W7 := by rw [hWn]; exact dN _ _
        clear hWn
        replace HB := Lib.hid (HB.out.trans (hB.mono HB.out.size))
        replace HT := Lib.hid (HT0.out.below HB.out)
        replace HL := Lib.hid (HL0.out.below HB.out)
        replace HS := Lib.hid (HS0.out.below HB.out)
        replace HD := Lib.hid (HD0.out.below HB.out)
        replace HR := Lib.hid (HR.out.step hB)
        replace HX9 := Lib.hid (HX9.out.step hB)
        replace HU := Lib.hid (HU.out.step hB)
        replace HFRB := Lib.hid (HFRB.out.trans (FrB.of_below hB HFRB.out.size))
        replace HV := Lib.hid (HV.out.below hB)
        clear hB
        go_wp2_with fail
        go_roundw
        case rel => exact ⟨i + 1, _, _, _, _, _, _, _, _, _, _, _, _, _, _, by omega, by go_num, rfl, HII.out, HU.out, HV.out, HFRB.out⟩
        case measure => first | (simp [intOf]; done) | (simp [intOf]; omega)
    · skip
      have b9 : (i < iN) = False := eq_false hk
      obtain rfl : iN = i := by omega
      have hfin := HII.out.fin HVS.out HFX.out
      have hmb : -9223372036854775808 ≤ most ∧ most ≤ 9223372036854775807 := by
        have hsx := HVS.out.size x (fndL_mem HFX.out).1
        rcases HII.out with ⟨_, h9⟩ | ⟨_, h9, h8⟩ <;> omega
      have HRP := Lib.hid (fun W v (h : SV W v s) => report_any v s x.shaper x.epoch le most false W h HFW.out hmb)
      rw [hfin.1] at HRP
      obtain ⟨t2, ht2⟩ : ∃ t, t = rpS s x.shaper x.epoch le most false := ⟨_, rfl⟩
      rw [← ht2] at HRP
      have HFT : Hid (fewS t2) := Lib.hid (by rw [ht2]; unfold rpS; split; split; exact swept_few (rpL_few HFW.out); exact swept_few HFW.out; exact HFW.out)
      have HC1 := Lib.hid (fun W v (h : SV W v tt) => credit_led v tt 0 W h (HII.out.few HFW.out))
      have HC2 := Lib.hid (fun W v (h : SV W v t2) => credit_led v t2 0 W h HFT.out)
      rw [hfin.2, ← ht2] at HC1
      obtain ⟨s3, hs3⟩ : ∃ t, t = credS t2 0 := ⟨_, rfl⟩
      rw [← hs3] at HC1 HC2
      clear hfin hmb ht2 hs3
      have qR0 : wr.cell? ⟨N, 0, none⟩ = some (.int .i64 s.term) := cell_at HR.out 0
      have qR1 : wr.cell? ⟨N, 1, none⟩ = some (.int .i64 s.stamp) := cell_at HR.out 1
      have qR2 : wr.cell? ⟨N, 2, none⟩ = some (.int .i64 s.next) := cell_at HR.out 2
      have qR3 : wr.cell? ⟨N, 3, none⟩ = some (.slice ta tn tc) := cell_at HR.out 3
      have qR4 : wr.cell? ⟨N, 4, none⟩ = some (.slice la ln lc) := cell_at HR.out 4
      have qR5 : wr.cell? ⟨N, 5, none⟩ = some (.slice sa sn sc) := cell_at HR.out 5
      have qR6 : wr.cell? ⟨N, 6, none⟩ = some (.slice da dn dc) := cell_at HR.out 6
      have qRz : ∀ j, wr.frozen? ⟨N, j, none⟩ = false := fun j => free_at HR.out j
      have qRl : N < wr.heap.size := HR.out.lt
      have qX90 : wr.cell? ⟨X9, 0, none⟩ = some (.int .i64 x.id) := cell_at HX9.out 0
      have qX91 : wr.cell? ⟨X9, 1, none⟩ = some (.int .i64 x.tenant) := cell_at HX9.out 1
      have qX92 : wr.cell? ⟨X9, 2, none⟩ = some (.int .i64 x.shaper) := cell_at HX9.out 2
      have qX93 : wr.cell? ⟨X9, 3, none⟩ = some (.int .i64 x.epoch) := cell_at HX9.out 3
      have qX94 : wr.cell? ⟨X9, 4, none⟩ = some (.int .i64 x.number) := cell_at HX9.out 4
      have qX95 : wr.cell? ⟨X9, 5, none⟩ = some (.int .i64 x.size) := cell_at HX9.out 5
      have qX96 : wr.cell? ⟨X9, 6, none⟩ = some (.int .i64 x.spent) := cell_at HX9.out 6
      have qX9z : ∀ j, wr.frozen? ⟨X9, j, none⟩ = false := fun j => free_at HX9.out j
      have qX9l : X9 < wr.heap.size := HX9.out.lt
      go_wp2_with fail
      go_at_call 22
      go_fit (HRP.out _ _ (HSV.out _ HT.out HL.out HS.out HD.out))
      rintro e W7 ⟨v1, rfl, hv1, hB⟩
      clear qR0 qR1 qR2 qR3 qR4 qR5 qR6 qRz qRl qX90 qX91 qX92 qX93 qX94 qX95 qX96 qX9z qX9l
      replace HB := Lib.hid (HB.out.trans (hB.mono HB.out.size))
      replace HT := Lib.hid (HT0.out.below HB.out)
      replace HL := Lib.hid (HL0.out.below HB.out)
      replace HS := Lib.hid (HS0.out.below HB.out)
      replace HD := Lib.hid (HD0.out.below HB.out)
      replace HR := Lib.hid (HR.out.step hB)
      replace HX9 := Lib.hid (HX9.out.step hB)
      replace HU := Lib.hid (HU.out.step hB)
      replace HV := Lib.hid (HV.out.below hB)
      clear hB
      obtain ⟨xt1, xl1, xs1, xd1, rfl, ht1, hl1, hs1, hd1⟩ := hv1
      obtain ⟨at1, nt1, ct1, rfl, _, _, _⟩ := ht1.sh
      obtain ⟨al1, nl1, cl1, rfl, _, _, _⟩ := hl1.sh
      obtain ⟨as1, ns1, cs1, rfl, _, _, _⟩ := hs1.sh
      obtain ⟨ad1, nd1, cd1, rfl, _, _, _⟩ := hd1.sh
      have V1 := Lib.hid (show SV _ (.agg #[.int .i64 t2.term, .int .i64 t2.stamp, .int .i64 t2.next, .slice at1 nt1 ct1, .slice al1 nl1 cl1, .slice as1 ns1 cs1, .slice ad1 nd1 cd1]) t2 from ⟨_, _, _, _, rfl, ht1, hl1, hs1, hd1⟩)
      clear ht1 hl1 hs1 hd1
      go_upto_region 15 with fail
      obtain ⟨A9, hA9⟩ : ∃ n0, n0 = W7.heap.size := ⟨_, rfl⟩
      have HXA9HR : Hid (N < A9) := Lib.hid (by rw [hA9]; exact HR.out.lt)
      have HXA9HX9 : Hid (X9 < A9) := Lib.hid (by rw [hA9]; exact HX9.out.lt)
      have HXA9HU : Hid (U9 < A9) := Lib.hid (by rw [hA9]; exact HU.out.lt)
      have HLOA9 : Hid (w.heap.size ≤ A9) := Lib.hid (by have := HB.out.size; omega)
      obtain ⟨W8, hA0⟩ : ∃ W0, W0 = W7.alloc (.cells #[.int .i64 t2.term, .int .i64 t2.stamp, .int .i64 t2.next, .slice at1 nt1 ct1, .slice al1 nl1 cl1, .slice as1 ns1 cs1, .slice ad1 nd1 cd1] 27) := ⟨_, rfl⟩
      have hB : Below W7.heap.size W7 W8 := by rw [hA0]; exact (Below.refl _ _).alloc (Nat.le_refl _) _
      have hS0 : W8.heap.size = A9 + 1 := by rw [hA0]; simp [← hA9]
      have HA1 := Lib.hid (show Blk W8 A9 #[.int .i64 t2.term, .int .i64 t2.stamp, .int .i64 t2.next, .slice at1 nt1 ct1, .slice al1 nl1 cl1, .slice as1 ns1 cs1, .slice ad1 nd1 cd1] 27 by rw [hA0, hA9]; exact blk_new _ _ _)
      replace HB := Lib.hid (HB.out.trans (hB.mono HB.out.size))
      replace HT := Lib.hid (HT0.out.below HB.out)
      replace HL := Lib.hid (HL0.out.below HB.out)
      replace HS := Lib.hid (HS0.out.below HB.out)
      replace HD := Lib.hid (HD0.out.below HB.out)
      replace HR := Lib.hid (HR.out.step hB)
      replace HX9 := Lib.hid (HX9.out.step hB)
      replace HU := Lib.hid (HU.out.step hB)
      replace HV := Lib.hid (HV.out.below hB)
      replace V1 := Lib.hid (V1.out.below hB)
      clear hB
      have HSA9 := Lib.hid hS0
      rw [← hA9, ← hA0]
      clear hA0 hA9 hS0
      have qA10 : W8.cell? ⟨A9, 0, none⟩ = some (.int .i64 t2.term) := cell_at HA1.out 0
      have qA11 : W8.cell? ⟨A9, 1, none⟩ = some (.int .i64 t2.stamp) := cell_at HA1.out 1
      have qA12 : W8.cell? ⟨A9, 2, none⟩ = some (.int .i64 t2.next) := cell_at HA1.out 2
      have qA13 : W8.cell? ⟨A9, 3, none⟩ = some (.slice at1 nt1 ct1) := cell_at HA1.out 3
      have qA14 : W8.cell? ⟨A9, 4, none⟩ = some (.slice al1 nl1 cl1) := cell_at HA1.out 4
      have qA15 : W8.cell? ⟨A9, 5, none⟩ = some (.slice as1 ns1 cs1) := cell_at HA1.out 5
      have qA16 : W8.cell? ⟨A9, 6, none⟩ = some (.slice ad1 nd1 cd1) := cell_at HA1.out 6
      have qA1z : ∀ j, W8.frozen? ⟨A9, j, none⟩ = false := fun j => free_at HA1.out j
      have qA1l : A9 < W8.heap.size := HA1.out.lt
      have qU0 : W8.cell? ⟨U9, 0, none⟩ = some (.int .i64 tt.term) := cell_at HU.out 0
      have qU1 : W8.cell? ⟨U9, 1, none⟩ = some (.int .i64 tt.stamp) := cell_at HU.out 1
      have qU2 : W8.cell? ⟨U9, 2, none⟩ = some (.int .i64 tt.next) := cell_at HU.out 2
      have qU3 : W8.cell? ⟨U9, 3, none⟩ = some (.slice tta ttn ttc) := cell_at HU.out 3
      have qU4 : W8.cell? ⟨U9, 4, none⟩ = some (.slice tla tln tlc) := cell_at HU.out 4
      have qU5 : W8.cell? ⟨U9, 5, none⟩ = some (.slice tsa tsn tsc) := cell_at HU.out 5
      have qU6 : W8.cell? ⟨U9, 6, none⟩ = some (.slice tda tdn tdc) := cell_at HU.out 6
      have qUz : ∀ j, W8.frozen? ⟨U9, j, none⟩ = false := fun j => free_at HU.out j
      have qUl : U9 < W8.heap.size := HU.out.lt
      go_wp2_with fail
      clear qA10 qA11 qA12 qA13 qA14 qA15 qA16 qA1z qA1l qU0 qU1 qU2 qU3 qU4 qU5 qU6 qUz qUl
      refine wp_region_held_drew (S := fun X => (X.cell? ⟨A9, 0, none⟩ = some (.int .i64 t2.term) ∧ X.cell? ⟨A9, 1, none⟩ = some (.int .i64 t2.stamp) ∧ X.cell? ⟨A9, 2, none⟩ = some (.int .i64 t2.next) ∧ X.cell? ⟨A9, 3, none⟩ = some (.slice at1 nt1 ct1) ∧ X.cell? ⟨A9, 4, none⟩ = some (.slice al1 nl1 cl1) ∧ X.cell? ⟨A9, 5, none⟩ = some (.slice as1 ns1 cs1) ∧ X.cell? ⟨A9, 6, none⟩ = some (.slice ad1 nd1 cd1) ∧ A9 < X.heap.size) ∧ (X.cell? ⟨U9, 0, none⟩ = some (.int .i64 tt.term) ∧ X.cell? ⟨U9, 1, none⟩ = some (.int .i64 tt.stamp) ∧ X.cell? ⟨U9, 2, none⟩ = some (.int .i64 tt.next) ∧ X.cell? ⟨U9, 3, none⟩ = some (.slice tta ttn ttc) ∧ X.cell? ⟨U9, 4, none⟩ = some (.slice tla tln tlc) ∧ X.cell? ⟨U9, 5, none⟩ = some (.slice tsa tsn tsc) ∧ X.cell? ⟨U9, 6, none⟩ = some (.slice tda tdn tdc) ∧ U9 < X.heap.size)) (by kernel_rfl) ⟨⟨cell_at HA1.out 0, cell_at HA1.out 1, cell_at HA1.out 2, cell_at HA1.out 3, cell_at HA1.out 4, cell_at HA1.out 5, cell_at HA1.out 6, HA1.out.lt⟩, ⟨cell_at HU.out 0, cell_at HU.out 1, cell_at HU.out 2, cell_at HU.out 3, cell_at HU.out 4, cell_at HU.out 5, cell_at HU.out 6, HU.out.lt⟩⟩ (fun hHeld => ?_)
      ((refine wpAnyH_take (i := 0) (v := ?_) (by (simp only [List.getElem?_toArray, List.getElem?_cons_succ, List.getElem?_cons_zero]); rfl) (by kernel_rfl) (by kernel_rfl) (by kernel_rfl) (by exact fun _ _ _ h => h) (Or.inl ⟨by rfl, ?_⟩) (by assumption) ?_); rotate_left; focus (intro wS hSw; (try dsimp only at hSw); go_simp; first | done | with_reducible rfl); try simp only [Act.put, List.setIfInBounds_toArray, List.set_cons_zero, List.set_cons_succ])
      ((refine wpAnyH_take (i := 1) (v := ?_) (by (simp only [List.getElem?_toArray, List.getElem?_cons_succ, List.getElem?_cons_zero]); rfl) (by kernel_rfl) (by kernel_rfl) (by kernel_rfl) (by exact fun _ _ _ h => h) (Or.inl ⟨by rfl, ?_⟩) (by assumption) ?_); rotate_left; focus (intro wS hSw; (try dsimp only at hSw); go_simp; first | done | with_reducible rfl); try simp only [Act.put, List.setIfInBounds_toArray, List.set_cons_zero, List.set_cons_succ])
      ((refine wpAnyH_take (i := 2) (v := ?_) (by (simp only [List.getElem?_toArray, List.getElem?_cons_succ, List.getElem?_cons_zero]); rfl) (by kernel_rfl) (by kernel_rfl) (by kernel_rfl) (by exact fun _ _ _ h => h) (Or.inl ⟨by rfl, ?_⟩) (by assumption) ?_); rotate_left; focus (intro wS hSw; (try dsimp only at hSw); go_simp; first | done | with_reducible rfl); try simp only [Act.put, List.setIfInBounds_toArray, List.set_cons_zero, List.set_cons_succ])
      ((refine wpAnyH_take (i := 3) (v := ?_) (by (simp only [List.getElem?_toArray, List.getElem?_cons_succ, List.getElem?_cons_zero]); rfl) (by kernel_rfl) (by kernel_rfl) (by kernel_rfl) (by exact fun _ _ _ h => h) (Or.inl ⟨by (go_simp; try rfl), ?_⟩) (by assumption) ?_); rotate_left; focus (intro wS hSw; (try dsimp only at hSw); go_simp; first | done | with_reducible rfl); try simp only [Act.put, List.setIfInBounds_toArray, List.set_cons_zero, List.set_cons_succ])
      ((refine wpAnyH_take (i := 5) (v := ?_) (by (simp only [List.getElem?_toArray, List.getElem?_cons_succ, List.getElem?_cons_zero]); rfl) (by kernel_rfl) (by kernel_rfl) (by kernel_rfl) (by exact fun _ _ _ h => h) (Or.inl ⟨by (go_simp; try rfl), ?_⟩) (by assumption) ?_); rotate_left; focus (intro wS hSw; (try dsimp only at hSw); go_simp; first | done | with_reducible rfl); try simp only [Act.put, List.setIfInBounds_toArray, List.set_cons_zero, List.set_cons_succ])
      refine wpAnyH_ready (rs := [4]) (by kernel_rfl) (by simp) ?_
      refine AllReadyH.cons (by (simp only [List.getElem?_toArray, List.getElem?_cons_succ, List.getElem?_cons_zero]); rfl) (fun K hK => ?_) AllReadyH.nil
      go_simp
      go_fit (HC1.out _ _ (HV.out.below (Below.refl _ _).drew))
      rintro e W9 ⟨va, rfl, hva, hB⟩
      replace hB := below_undrew hB
      replace HB := Lib.hid (HB.out.trans (hB.mono HB.out.size))
      replace HT := Lib.hid (HT0.out.below HB.out)
      replace HL := Lib.hid (HL0.out.below HB.out)
      replace HS := Lib.hid (HS0.out.below HB.out)
      replace HD := Lib.hid (HD0.out.below HB.out)
      replace HR := Lib.hid (HR.out.step hB)
      replace HX9 := Lib.hid (HX9.out.step hB)
      replace HU := Lib.hid (HU.out.step hB)
      replace HV := Lib.hid (HV.out.below hB)
      replace V1 := Lib.hid (V1.out.below hB)
      replace HA1 := Lib.hid (HA1.out.step hB)
      have HVA := Lib.hid hva
      clear hva
      go_wp2_with fail
      refine hK.out _ _ ⟨⟨cell_at HA1.out 0, cell_at HA1.out 1, cell_at HA1.out 2, cell_at HA1.out 3, cell_at HA1.out 4, cell_at HA1.out 5, cell_at HA1.out 6, HA1.out.lt⟩, ⟨cell_at HU.out 0, cell_at HU.out 1, cell_at HU.out 2, cell_at HU.out 3, cell_at HU.out 4, cell_at HU.out 5, cell_at HU.out 6, HU.out.lt⟩⟩ (fun hHeld => ?_)
      clear hK K hB
      try simp only [Act.put, List.setIfInBounds_toArray, List.set_cons_zero, List.set_cons_succ]
      refine wpAnyH_ready (rs := [6]) (by kernel_rfl) (by simp) ?_
      refine AllReadyH.cons (by (simp only [List.getElem?_toArray, List.getElem?_cons_succ, List.getElem?_cons_zero]); rfl) (fun K hK => ?_) AllReadyH.nil
      go_simp
      go_fit (HC2.out _ _ V1.out)
      rintro e W10 ⟨vb, rfl, hvb, hB⟩
      replace HB := Lib.hid (HB.out.trans (hB.mono HB.out.size))
      replace HT := Lib.hid (HT0.out.below HB.out)
      replace HL := Lib.hid (HL0.out.below HB.out)
      replace HS := Lib.hid (HS0.out.below HB.out)
      replace HD := Lib.hid (HD0.out.below HB.out)
      replace HR := Lib.hid (HR.out.step hB)
      replace HX9 := Lib.hid (HX9.out.step hB)
      replace HU := Lib.hid (HU.out.step hB)
      replace HV := Lib.hid (HV.out.below hB)
      replace V1 := Lib.hid (V1.out.below hB)
      replace HA1 := Lib.hid (HA1.out.step hB)
      replace HVA := Lib.hid (HVA.out.below hB)
      have HVB := Lib.hid hvb
      clear hvb
      go_wp2_with fail
      refine hK.out _ _ ⟨⟨cell_at HA1.out 0, cell_at HA1.out 1, cell_at HA1.out 2, cell_at HA1.out 3, cell_at HA1.out 4, cell_at HA1.out 5, cell_at HA1.out 6, HA1.out.lt⟩, ⟨cell_at HU.out 0, cell_at HU.out 1, cell_at HU.out 2, cell_at HU.out 3, cell_at HU.out 4, cell_at HU.out 5, cell_at HU.out 6, HU.out.lt⟩⟩ (fun hHeld => ?_)
      clear hK K hB
      try simp only [Act.put, List.setIfInBounds_toArray, List.set_cons_zero, List.set_cons_succ]
      refine wpAnyH_ready (rs := [7]) (by kernel_rfl) (by simp) ?_
      refine AllReadyH.cons (by (simp only [List.getElem?_toArray, List.getElem?_cons_succ, List.getElem?_cons_zero]); rfl) (fun K hK => ?_) AllReadyH.nil
      go_simp
      go_fit (sameS_any _ _ s3 _ HVA.out HVB.out)
      rintro e W11 ⟨rfl, hB⟩
      replace HB := Lib.hid (HB.out.trans (hB.mono HB.out.size))
      replace HT := Lib.hid (HT0.out.below HB.out)
      replace HL := Lib.hid (HL0.out.below HB.out)
      replace HS := Lib.hid (HS0.out.below HB.out)
      replace HD := Lib.hid (HD0.out.below HB.out)
      replace HR := Lib.hid (HR.out.step hB)
      replace HX9 := Lib.hid (HX9.out.step hB)
      replace HU := Lib.hid (HU.out.step hB)
      replace HV := Lib.hid (HV.out.below hB)
      replace V1 := Lib.hid (V1.out.below hB)
      replace HA1 := Lib.hid (HA1.out.step hB)
      replace HVA := Lib.hid (HVA.out.below hB)
      replace HVB := Lib.hid (HVB.out.below hB)
      go_wp2_with fail
      refine hK.out _ _ ⟨⟨cell_at HA1.out 0, cell_at HA1.out 1, cell_at HA1.out 2, cell_at HA1.out 3, cell_at HA1.out 4, cell_at HA1.out 5, cell_at HA1.out 6, HA1.out.lt⟩, ⟨cell_at HU.out 0, cell_at HU.out 1, cell_at HU.out 2, cell_at HU.out 3, cell_at HU.out 4, cell_at HU.out 5, cell_at HU.out 6, HU.out.lt⟩⟩ (fun hHeld => ?_)
      clear hK K hB
      try simp only [Act.put, List.setIfInBounds_toArray, List.set_cons_zero, List.set_cons_succ]
      ((refine wpAnyH_take (i := 8) (v := ?_) (by (simp only [List.getElem?_toArray, List.getElem?_cons_succ, List.getElem?_cons_zero]); rfl) (by kernel_rfl) (by kernel_rfl) (by kernel_rfl) (by exact fun _ _ _ h => h) (Or.inl ⟨by rfl, ?_⟩) (by assumption) ?_); rotate_left; focus (intro wS hSw; (try dsimp only at hSw); go_simp; first | done | with_reducible rfl); try simp only [Act.put, List.setIfInBounds_toArray, List.set_cons_zero, List.set_cons_succ])
      ((refine wpAnyH_take (i := 9) (v := ?_) (by (simp only [List.getElem?_toArray, List.getElem?_cons_succ, List.getElem?_cons_zero]); rfl) (by kernel_rfl) (by kernel_rfl) (by kernel_rfl) (by exact fun _ _ _ h => h) (Or.inl ⟨by rfl, ?_⟩) (by assumption) ?_); rotate_left; focus (intro wS hSw; (try dsimp only at hSw); go_simp; first | done | with_reducible rfl); try simp only [Act.put, List.setIfInBounds_toArray, List.set_cons_zero, List.set_cons_succ])
      refine wpAnyH_ready (rs := [10]) (by kernel_rfl) (by simp) ?_
      refine AllReadyH.cons (by (simp only [List.getElem?_toArray, List.getElem?_cons_succ, List.getElem?_cons_zero]); rfl) (fun K hK => ?_) AllReadyH.nil
      go_simp
      go_fit (HWK.out _)
      rintro e W12 ⟨rfl, hB⟩
      replace HB := Lib.hid (HB.out.trans (hB.mono HB.out.size))
      replace HT := Lib.hid (HT0.out.below HB.out)
      replace HL := Lib.hid (HL0.out.below HB.out)
      replace HS := Lib.hid (HS0.out.below HB.out)
      replace HD := Lib.hid (HD0.out.below HB.out)
      replace HR := Lib.hid (HR.out.step hB)
      replace HX9 := Lib.hid (HX9.out.step hB)
      replace HU := Lib.hid (HU.out.step hB)
      replace HV := Lib.hid (HV.out.below hB)
      replace V1 := Lib.hid (V1.out.below hB)
      replace HA1 := Lib.hid (HA1.out.step hB)
      replace HVA := Lib.hid (HVA.out.below hB)
      replace HVB := Lib.hid (HVB.out.below hB)
      go_wp2_with fail
      refine hK.out _ _ ⟨⟨cell_at HA1.out 0, cell_at HA1.out 1, cell_at HA1.out 2, cell_at HA1.out 3, cell_at HA1.out 4, cell_at HA1.out 5, cell_at HA1.out 6, HA1.out.lt⟩, ⟨cell_at HU.out 0, cell_at HU.out 1, cell_at HU.out 2, cell_at HU.out 3, cell_at HU.out 4, cell_at HU.out 5, cell_at HU.out 6, HU.out.lt⟩⟩ (fun hHeld => ?_)
      clear hK K hB
      try simp only [Act.put, List.setIfInBounds_toArray, List.set_cons_zero, List.set_cons_succ]
      ((refine wpAnyH_take (i := 11) (v := ?_) (by (simp only [List.getElem?_toArray, List.getElem?_cons_succ, List.getElem?_cons_zero]); rfl) (by kernel_rfl) (by kernel_rfl) (by kernel_rfl) (by exact fun _ _ _ h => h) (Or.inl ⟨by rfl, ?_⟩) (by assumption) ?_); rotate_left; focus (intro wS hSw; (try dsimp only at hSw); go_simp; first | done | with_reducible rfl); try simp only [Act.put, List.setIfInBounds_toArray, List.set_cons_zero, List.set_cons_succ])
      ((refine wpAnyH_take (i := 12) (v := ?_) (by (simp only [List.getElem?_toArray, List.getElem?_cons_succ, List.getElem?_cons_zero]); rfl) (by kernel_rfl) (by kernel_rfl) (by kernel_rfl) (by exact fun _ _ _ h => h) (Or.inl ⟨by rfl, ?_⟩) (by assumption) ?_); rotate_left; focus (intro wS hSw; (try dsimp only at hSw); go_simp; first | done | with_reducible rfl); try simp only [Act.put, List.setIfInBounds_toArray, List.set_cons_zero, List.set_cons_succ])
      refine wpAnyH_done (by kernel_rfl) ?_ _
      try simp only [Act.put, List.setIfInBounds_toArray, List.set_cons_zero, List.set_cons_succ]
      go_wp2_with fail
      go_ret
      exact ⟨rfl, HB.out⟩
theorem ledgerLate_dt (x : Dt) (le : Int) (a : Option Addr) (len cap : Nat) (xs : List Dt) (w : World) (hx : Fits Try.prog w 27 x) (hi : SliceFits Try.prog w 3 a len cap xs) : Calls Try.prog 8 #[.agg x.cells.toArray, .int .i64 le, .slice a len cap] w fun e w' => e = .returned (.bool true) ∧ Below w.heap.size w w' := by
  obtain ⟨s, l, e, h⟩ := state_inv hx
  obtain ⟨L, _, hL⟩ := inv_cells w hi
  rw [e]
  exact ledgerLate_walk _ _ s le L w h hL
end Go.Proofs.Ytfgnjpdlchimpaa
