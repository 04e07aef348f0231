/-
  Texts of this claim, put together: LgT2, LgPu, LgCp, LgC1, LgSu, LgL5.
-/
import Derived.Test.YtfgnjpdlchimpaaLc1
import Derived.Test.YtfgnjpdlchimpaaLc2
import Derived.Test.YtfgnjpdlchimpaaLc3
import Derived.Test.YtfgnjpdlchimpaaLc4
import Derived.Test.YtfgnjpdlchimpaaLc5
import Derived.Test.YtfgnjpdlchimpaaLd1
import Derived.Deep.DeepFit
import Derived.Lib.AppendZeros
import Derived.Defers
namespace Go.Proofs.Ytfgnjpdlchimpaa
open Go.RowKit
set_option linter.unusedSimpArgs false
set_option linter.unusedVariables false

theorem FrB.blk {W W' : World} {ot : Option Nat} (hf : FrB W.heap.size ot.toList W W') (k : Nat) (hk : k < W.heap.size) (hne : ∀ g2, ot = some g2 → k ≠ g2) : W'.heap[k]? = W.heap[k]? := hf.block k hk (by cases ot with | none => simp | some g => simpa using hne g rfl)
theorem LeO.frBT {W W' : World} {M M2 : Nat} {v v2 : Value} {ob ot : Option Nat} {L : List LeE} {L2 : List TnE} (h : LeO M W v ob L) (hr : TnO M2 W v2 ot L2) (hf : FrB W.heap.size ot.toList W W') : LeO M W' v ob L := ⟨row_keep h.1 hr.1 (by decide) hf.blk, h.2.1, h.2.2⟩
theorem SeO.frBT {W W' : World} {M M2 : Nat} {v v2 : Value} {ob ot : Option Nat} {L : List SeE} {L2 : List TnE} (h : SeO M W v ob L) (hr : TnO M2 W v2 ot L2) (hf : FrB W.heap.size ot.toList W W') : SeO M W' v ob L := ⟨row_keep h.1 hr.1 (by decide) hf.blk, h.2.1, h.2.2⟩
theorem DkO.frBT {W W' : World} {M M2 : Nat} {v v2 : Value} {ob ot : Option Nat} {L : List DkE} {L2 : List TnE} (h : DkO M W v ob L) (hr : TnO M2 W v2 ot L2) (hf : FrB W.heap.size ot.toList W W') : DkO M W' v ob L := ⟨row_keep h.1 hr.1 (by decide) hf.blk, h.2.1, h.2.2⟩
theorem Blk.frBT {W W' : World} {M2 n0 : Nat} {v2 : Value} {ot : Option Nat} {cs : Array Value} {t : TypeId} {L2 : List TnE} (h : Blk W n0 cs t) (hr : TnO M2 W v2 ot L2) (hf : FrB W.heap.size ot.toList W W') (ht : t ≠ 54) : Blk W' n0 cs t := (hf.blk n0 h.lt (fun g e => by subst e; exact row_blk_ne hr.1 h ht)).trans h
theorem TnO.blkMap {W : World} {M2 b g : Nat} {v2 : Value} {L2 : List TnE} {κ : Type} [DecidableEq κ] {enc : κ → Value} {F : κ → Int} (hr : TnO M2 W v2 (some g) L2) (h : MapT W b enc F) : b ≠ g := by
  intro e
  subst e
  obtain ⟨L, c, h1, _⟩ := h
  rcases hr.1.cases with ⟨he, _⟩ | ⟨g1, cap, cur, he, _, h3, _⟩
  · cases he
  · obtain rfl := Option.some.inj he
    exact absurd (h3.symm.trans h1) (by simp)
theorem MapT.frBT {W W' : World} {M2 b : Nat} {v2 : Value} {ot : Option Nat} {L2 : List TnE} {κ : Type} [DecidableEq κ] {enc : κ → Value} {F : κ → Int} (h : MapT W b enc F) (hr : TnO M2 W v2 ot L2) (hf : FrB W.heap.size ot.toList W W') : MapT W' b enc F := h.congr (hf.blk b h.lt (fun g e => by subst e; exact hr.blkMap h))
/-- the first k of a list, mapped -/
def mapK {α : Type} (f : α → α) (L : List α) (k : Nat) : List α := (L.take k).map f ++ L.drop k
theorem mapK_zero {α : Type} (f : α → α) (L : List α) : mapK f L 0 = L := by simp [mapK]
theorem mapK_len {α : Type} (f : α → α) (L : List α) (k : Nat) (hk : k ≤ L.length) : (mapK f L k).length = L.length := by simp [mapK]; omega
theorem mapK_end {α : Type} (f : α → α) (L : List α) : mapK f L L.length = L.map f := by simp [mapK]
theorem mapK_at {α : Type} (f : α → α) (L : List α) (k : Nat) (x : α) (h : L[k]? = some x) : (mapK f L k)[k]? = some x := by
  have hk := (List.getElem?_eq_some_iff.1 h).1
  unfold mapK
  rw [List.getElem?_append_right (by simp; omega)]
  simp only [List.length_map, List.length_take]
  rw [show k - min k L.length = 0 by omega, List.getElem?_drop, Nat.add_zero, h]
theorem mapK_succ {α : Type} (f : α → α) (L : List α) (k : Nat) (x : α) (h : L[k]? = some x) : mapK f L (k + 1) = (mapK f L k).set k (f x) := by
  have hk := (List.getElem?_eq_some_iff.1 h).1
  have hx : L[k] = x := by have := List.getElem?_eq_getElem hk; rw [this] at h; exact Option.some.inj h
  unfold mapK
  rw [List.take_add_one, h, List.map_append, List.drop_eq_getElem_cons hk, hx]
  rw [List.set_append_right _ _ (by simp; omega)]
  simp only [List.length_map, List.length_take]
  rw [show k - min k L.length = 0 by omega]
  simp
theorem set_id {α : Type} : ∀ (L : List α) (k : Nat) (x : α), L[k]? = some x → L.set k x = L
  | [], _, _, h => by simp at h
  | y :: r, 0, x, h => by simp at h; subst h; rfl
  | y :: r, k + 1, x, h => by simp at h; simp [set_id r k x h]
theorem creditS_bd (b rate burst out ticks : Int) : 0 ≤ creditS b rate burst out ticks ∧ creditS b rate burst out ticks ≤ 1000000000 := by
  have h := (within_bd rate 1000000 (by omega))
  have h2 := (within_bd ticks 1099511627776 (by omega))
  have h3 := prod_bd rate ticks
  have hfin : creditS b rate burst out ticks = cut (moreS b (within rate 1000000 * within ticks 1099511627776)) burst out := (cut_more _ _ _ _ h3.1).symm
  rw [hfin]
  unfold cut
  have := room_bd burst out
  unfold within
  omega
theorem FrB.mono0 {n n' : Nat} {l : List Nat} {a b : World} (h : FrB n' l a b) (hn : n ≤ n') : FrB n l a b := ⟨h.os, h.tape, h.output, h.size, fun i hi hm => h.block i (by omega) hm⟩
end Go.Proofs.Ytfgnjpdlchimpaa
namespace Go.Proofs.Ytfgnjpdlchimpaa
open Go.RowKit
set_option linter.unusedSimpArgs false
set_option linter.unusedVariables false

theorem chkF_mono : ∀ (L : List TnE) (a b : Int), chkF a L = true → b ≤ a → chkF b L = true
  | [], _, _, _, _ => rfl
  | y :: r, a, b, h, hb => by
    unfold chkF at h ⊢
    simp only [Bool.and_eq_true, decide_eq_true_eq] at h ⊢
    exact ⟨⟨by omega, h.1.2⟩, h.2⟩
theorem chkF_filter (p : TnE → Bool) : ∀ (L : List TnE) (a : Int), chkF a L = true → chkF a (L.filter p) = true
  | [], _, _ => rfl
  | y :: r, a, h => by
    have h0 := h
    unfold chkF at h0
    simp only [Bool.and_eq_true, decide_eq_true_eq] at h0
    have ih := chkF_filter p r y.id h0.2
    rw [List.filter_cons]
    split
    · unfold chkF
      simp only [Bool.and_eq_true, decide_eq_true_eq]
      exact ⟨⟨h0.1.1, h0.1.2⟩, ih⟩
    · exact chkF_mono _ _ _ ih (by omega)
theorem fnd_mem {L : List TnE} {key : Int} {y : TnE} (h : fnd key L = some y) : y ∈ L ∧ y.id = key := ⟨List.mem_of_find?_eq_some h, by have := List.find?_some h; simpa using this⟩
theorem fnd_is {L : List TnE} {key : Int} {y : TnE} (hy : y ∈ L) (he : y.id = key) : (fnd key L).isSome = true := by
  unfold fnd
  rw [List.find?_isSome]
  exact ⟨y, hy, by simpa using he⟩
theorem outL_pos : ∀ (L : List LeE) (x : LeE), sizeB L → x ∈ L → 0 < outL L x.tenant
  | [], x, _, h => absurd h (by simp)
  | y :: r, x, hz, h => by
    have hr := outL_bd r x.tenant (fun z hz' => hz z (by simp [hz']))
    have hy := hz y (by simp)
    unfold outL
    rcases List.mem_cons.1 h with rfl | h
    · rw [if_pos rfl]; omega
    · have := outL_pos r x (fun z hz' => hz z (by simp [hz'])) h
      split <;> omega
def keepS (ls : List LeE) (x : TnE) : Bool := !(x.gone && decide (outL ls x.id ≤ 0))
theorem mayT_id {x : TnE} (h : mayT x = true) : 1 ≤ x.id ∧ x.id ≤ 16 := by
  unfold mayT idB at h
  simp only [Bool.and_eq_true, decide_eq_true_eq] at h
  exact h.1.1.1
theorem chk_may {L : List TnE} (h : chk L = true) (x : TnE) (hx : x ∈ L) : mayT x = true := by
  have hgo : ∀ (L : List TnE) (a : Int), chkF a L = true → ∀ z ∈ L, mayT z = true := by
    intro L
    induction L with
    | nil => intro _ _ z hz; simp at hz
    | cons y r ih =>
      intro a h z hz
      unfold chkF at h
      simp only [Bool.and_eq_true, decide_eq_true_eq] at h
      rcases List.mem_cons.1 hz with rfl | hz
      · exact h.1.2
      · exact ih y.id h.2 z hz
  exact hgo L 0 h x hx
theorem swL_keep {ls : List LeE} {L : List TnE} (h : chk L = true) : swL 16 (fun k => outL ls ((k : Int) + 1)) L = L.filter (keepS ls) := by
  unfold swL
  rw [h, if_pos rfl]
  refine List.filter_congr fun x hx => ?_
  have hi := mayT_id (chk_may h x hx)
  unfold swB outN keepS
  rw [if_pos (by omega)]
  have : (((x.id - 1).toNat : Nat) : Int) + 1 = x.id := by omega
  show (!(x.gone && decide (outL ls ((((x.id - 1).toNat : Nat) : Int) + 1) ≤ 0))) = _
  rw [this]
theorem swept_eq {s : StE} (h : chk s.ts = true) : sweptS s = ⟨s.term, s.stamp, s.next, s.ts.filter (keepS s.ls), s.ls, s.ss, s.ds⟩ := by
  unfold sweptS
  rw [swL_keep h]
theorem lesR_ts : ∀ (L : List LeE) (ts ts' : List TnE) (next last : Int), (∀ x ∈ L, (fndC x.tenant ts).isSome = true → (fndC x.tenant ts').isSome = true) → lesR ts next last L = true → lesR ts' next last L = true
  | [], _, _, _, _, _, _ => rfl
  | y :: r, ts, ts', next, last, hf, h => by
    unfold lesR leMay at h ⊢
    simp only [Bool.and_eq_true, decide_eq_true_eq] at h ⊢
    have h1 := hf y (by simp) h.1.2.1.1.1.1.1.1
    exact ⟨⟨h.1.1, ⟨⟨⟨⟨⟨⟨h1, h.1.2.1.1.1.1.1.2⟩, h.1.2.1.1.1.1.2⟩, h.1.2.1.1.1.2⟩, h.1.2.1.1.2⟩, h.1.2.1.2⟩, h.1.2.2⟩⟩, lesR_ts r ts ts' next y.id (fun x hx => hf x (by simp [hx])) h.2⟩
theorem fndC_eq {L : List TnE} (key : Int) (h : chk L = true) : fndC key L = fnd key L := by unfold fndC; rw [h]; rfl
theorem lesR_may : ∀ (L : List LeE) (ts : List TnE) (next last : Int), lesR ts next last L = true → ∀ x ∈ L, (fndC x.tenant ts).isSome = true
  | [], _, _, _, _ => fun x h => absurd h (by simp)
  | y :: r, ts, next, last, h => by
    unfold lesR leMay at h
    simp only [Bool.and_eq_true, decide_eq_true_eq] at h
    intro x hx
    rcases List.mem_cons.1 hx with rfl | hx
    · exact h.1.2.1.1.1.1.1.1
    · exact lesR_may r ts next y.id h.2 x hx
/-- what a state that may be bears -/
structure VS (s : StE) : Prop where
  ck : chk s.ts = true
  le : lesR s.ts s.next 0 s.ls = true
  len : s.ls.length ≤ 64
  n1 : 1 ≤ s.next
  n2 : s.next ≤ 1099511627776
  cap : capB s.ls s.ts = true
theorem vs_of {s : StE} (h : chkS s = true) : VS s := by
  obtain ⟨h1, h2, h3⟩ := chkS_parts h
  exact ⟨h1, lesB_R h2, (lesB_next h2).1, (lesB_next h2).2.1, (lesB_next h2).2.2, h3⟩
theorem VS.chk {s : StE} (h : VS s) : chkS s = true := by
  unfold chkS lesB
  rw [h.ck, h.le, h.cap]
  simp only [Bool.true_and, Bool.and_true, Bool.and_eq_true, decide_eq_true_eq]
  exact ⟨⟨h.len, h.n1⟩, h.n2⟩
theorem VS.size {s : StE} (h : VS s) : sizeB s.ls := lesR_size _ _ _ _ h.le
theorem cap_at {ls : List LeE} {ts : List TnE} (h : capB ls ts = true) (x : TnE) (hx : x ∈ ts) : 0 < x.bkt → x.bkt + 1000 * outL ls x.id ≤ 1000 * x.burst := by
  unfold capB at h
  have := List.all_eq_true.1 h x hx
  unfold capT at this
  simp at this
  intro hb
  rcases this with h9 | h9
  · omega
  · exact h9
theorem cap_of {ls : List LeE} {ts : List TnE} (h : ∀ x ∈ ts, 0 < x.bkt → x.bkt + 1000 * outL ls x.id ≤ 1000 * x.burst) : capB ls ts = true := by
  unfold capB
  refine List.all_eq_true.2 fun x hx => ?_
  have h9 := h x hx
  unfold capT
  simp
  by_cases hb : 0 < x.bkt
  · exact .inr (h9 hb)
  · exact .inl (by omega)
theorem VS.swept {s : StE} (h : VS s) : VS (sweptS s) := by
  rw [swept_eq h.ck]
  have hc := chkF_filter (keepS s.ls) s.ts 0 h.ck
  refine ⟨hc, ?_, h.len, h.n1, h.n2, cap_of fun x hx => cap_at h.cap x (List.mem_filter.1 hx).1⟩
  refine lesR_ts _ _ _ _ _ (fun x hx hs => ?_) h.le
  rw [fndC_eq _ h.ck] at hs
  rw [fndC_eq _ hc]
  obtain ⟨y, hy⟩ := Option.isSome_iff_exists.1 hs
  obtain ⟨h1, h2⟩ := fnd_mem hy
  refine fnd_is (y := y) (List.mem_filter.2 ⟨h1, ?_⟩) h2
  have := outL_pos s.ls x h.size hx
  unfold keepS
  rw [h2]
  have hn : ¬ outL s.ls x.tenant ≤ 0 := by omega
  simp [hn]
theorem swept_idem {s : StE} (h : VS s) : sweptS (sweptS s) = sweptS s := by
  have hv := h.swept
  rw [swept_eq hv.ck, swept_eq h.ck]
  simp only [List.filter_filter, Bool.and_self]
theorem outL_le_filter (p : LeE → Bool) : ∀ (L : List LeE) (t : Int), sizeB L → outL (L.filter p) t ≤ outL L t
  | [], _, _ => Int.le_refl _
  | y :: r, t, hz => by
    have ih := outL_le_filter p r t (fun z hz' => hz z (by simp [hz']))
    have hy := hz y (by simp)
    rw [List.filter_cons]
    split
    · unfold outL; split <;> omega
    · rw [show outL (y :: r) t = (if y.tenant = t then y.size - y.spent else 0) + outL r t from rfl]
      split <;> omega
theorem outL_le_spL (le sp : Int) : ∀ (L : List LeE) (t : Int), (∀ x ∈ L, x.id = le → x.spent ≤ sp) → outL (spL le sp L) t ≤ outL L t
  | [], _, _ => Int.le_refl _
  | y :: r, t, h => by
    have ih := outL_le_spL le sp r t (fun z hz => h z (by simp [hz]))
    have hy := h y (by simp)
    have hl : spL le sp (y :: r) = (if y.id = le then ⟨y.id, y.tenant, y.shaper, y.epoch, y.number, y.size, sp⟩ else y) :: spL le sp r := rfl
    rw [hl]
    unfold outL
    by_cases he : y.id = le
    · rw [if_pos he]
      have := hy he
      simp only
      split <;> omega
    · rw [if_neg he]
      omega
theorem lesR_mono : ∀ (L : List LeE) (ts : List TnE) (next a b : Int), lesR ts next a L = true → b ≤ a → lesR ts next b L = true
  | [], _, _, _, _, _, _ => rfl
  | y :: r, ts, next, a, b, h, hb => by
    unfold lesR at h ⊢
    simp only [Bool.and_eq_true, decide_eq_true_eq] at h ⊢
    exact ⟨⟨⟨by omega, h.1.1.2⟩, h.1.2⟩, h.2⟩
theorem lesR_filter (p : LeE → Bool) : ∀ (L : List LeE) (ts : List TnE) (next a : Int), lesR ts next a L = true → lesR ts next a (L.filter p) = true
  | [], _, _, _, _ => rfl
  | y :: r, ts, next, a, h => by
    have h0 := h
    unfold lesR at h0
    simp only [Bool.and_eq_true, decide_eq_true_eq] at h0
    have ih := lesR_filter p r ts next y.id h0.2
    rw [List.filter_cons]
    split
    · unfold lesR
      simp only [Bool.and_eq_true, decide_eq_true_eq]
      exact ⟨h0.1, ih⟩
    · exact lesR_mono _ _ _ _ _ ih (by omega)
theorem lesR_spL (le sp : Int) : ∀ (L : List LeE) (ts : List TnE) (next a : Int), (∀ x ∈ L, x.id = le → 0 ≤ sp ∧ sp < x.size) → lesR ts next a L = true → lesR ts next a (spL le sp L) = true
  | [], _, _, _, _, _ => rfl
  | y :: r, ts, next, a, hs, h => by
    have h0 := h
    unfold lesR at h0
    simp only [Bool.and_eq_true, decide_eq_true_eq] at h0
    have ih := lesR_spL le sp r ts next y.id (fun z hz => hs z (by simp [hz])) h0.2
    have hl : spL le sp (y :: r) = (if y.id = le then ⟨y.id, y.tenant, y.shaper, y.epoch, y.number, y.size, sp⟩ else y) :: spL le sp r := rfl
    rw [hl]
    by_cases he : y.id = le
    · rw [if_pos he]
      have hsp := hs y (by simp) he
      have hm := h0.1.2
      unfold leMay at hm
      simp only [Bool.and_eq_true, decide_eq_true_eq] at hm
      unfold lesR leMay
      simp only [Bool.and_eq_true, decide_eq_true_eq]
      exact ⟨⟨h0.1.1, ⟨⟨hm.1.1, hsp.1⟩, hsp.2⟩⟩, ih⟩
    · rw [if_neg he]
      unfold lesR
      simp only [Bool.and_eq_true, decide_eq_true_eq]
      exact ⟨h0.1, ih⟩
/-- other leases, of which no more is out -/
theorem VS.leases {s : StE} (h : VS s) (L : List LeE) (h1 : lesR s.ts s.next 0 L = true) (h2 : L.length ≤ 64) (h3 : ∀ t, outL L t ≤ outL s.ls t) : VS ⟨s.term, s.stamp, s.next, s.ts, L, s.ss, s.ds⟩ :=
  ⟨h.ck, h1, h2, h.n1, h.n2, cap_of fun x hx hb => by have := cap_at h.cap x hx hb; have := h3 x.id; show x.bkt + 1000 * outL L x.id ≤ _; omega⟩
theorem lease_uniq {s : StE} (h : VS s) {le : Int} {x : LeE} (hx : fndL le s.ls = some x) : ∀ y ∈ s.ls, y.id = le → y = x := by
  have hgo : ∀ (L : List LeE) (a : Int), lesR s.ts s.next a L = true → ∀ y ∈ L, ∀ z, fndL y.id L = some z → y = z := by
    intro L
    induction L with
    | nil => intro _ _ y hy; simp at hy
    | cons q r ih =>
      intro a hl y hy z hz
      have hl0 := hl
      unfold lesR at hl0
      simp only [Bool.and_eq_true, decide_eq_true_eq] at hl0
      have hgt := lesR_gt r s.ts s.next q.id hl0.2
      unfold fndL at hz
      rcases List.mem_cons.1 hy with rfl | hy
      · rw [List.find?_cons_of_pos (by simp)] at hz
        exact Option.some.inj hz
      · have := hgt y hy
        rw [List.find?_cons_of_neg (by simp; omega)] at hz
        exact ih q.id hl0.2 y hy z hz
  intro y hy he
  subst he
  exact hgo s.ls 0 h.le y hy x hx
theorem fndL_mem {L : List LeE} {le : Int} {x : LeE} (hx : fndL le L = some x) : x ∈ L ∧ x.id = le := ⟨List.mem_of_find?_eq_some hx, by have := List.find?_some hx; simpa using this⟩
theorem spL_len (le sp : Int) (L : List LeE) : (spL le sp L).length = L.length := by simp [spL]
/-- a report that isn't closed leaves a state that may be -/
theorem VS.late {s : StE} (h : VS s) {le sp : Int} {x : LeE} (hx : fndL le s.ls = some x) (h1 : x.spent ≤ sp) : VS (rpL s le sp false) := by
  obtain ⟨hm, hk⟩ := fndL_mem hx
  have hu := lease_uniq h hx
  have hsx := h.size x hm
  unfold rpL
  rw [hx]
  simp only [Option.getD_some]
  by_cases hs : sp < x.size
  · rw [if_pos ⟨trivial, hs⟩]
    refine h.leases _ (lesR_spL le sp _ _ _ _ (fun y hy he => by rw [hu y hy he]; omega) h.le) (by rw [spL_len]; exact h.len) (fun t => outL_le_spL le sp _ t (fun y hy he => by rw [hu y hy he]; exact h1))
  · rw [if_neg (by rintro ⟨_, h9⟩; exact hs h9)]
    simp only [Bool.false_eq_true, if_false]
    exact h.leases _ (lesR_filter _ _ _ _ _ h.le) (Nat.le_trans (List.length_filter_le _ _) h.len) (fun t => outL_le_filter _ _ t h.size)
theorem rpS_go {s : StE} (h : VS s) {sh ep le sp : Int} {cl : Bool} (he : rpE s sh ep le sp = 0) : rpS s sh ep le sp cl = sweptS (rpL s le sp cl) := by unfold rpS; rw [h.chk, he]; rfl
theorem rpS_no {s : StE} (h : VS s) {sh ep le sp : Int} {cl : Bool} (he : rpE s sh ep le sp ≠ 0) : rpS s sh ep le sp cl = sweptS s := by unfold rpS; rw [h.chk, if_pos rfl, if_neg he]
theorem fndL_spL (le sp : Int) : ∀ (L : List LeE) (x : LeE), fndL le L = some x → fndL le (spL le sp L) = some ⟨x.id, x.tenant, x.shaper, x.epoch, x.number, x.size, sp⟩
  | [], x, h => by simp [fndL] at h
  | y :: r, x, h => by
    have hl : spL le sp (y :: r) = (if y.id = le then ⟨y.id, y.tenant, y.shaper, y.epoch, y.number, y.size, sp⟩ else y) :: spL le sp r := rfl
    rw [hl]
    unfold fndL at h ⊢
    by_cases he : y.id = le
    · rw [List.find?_cons_of_pos (by simp [he])] at h
      obtain rfl := Option.some.inj h
      rw [if_pos he, List.find?_cons_of_pos (by simp [he])]
    · rw [List.find?_cons_of_neg (by simp [he])] at h
      rw [if_neg he, List.find?_cons_of_neg (by simp [he])]
      exact fndL_spL le sp r x h
theorem fndL_wo (le : Int) (L : List LeE) : fndL le (wo le L) = none := by
  unfold fndL wo
  refine List.find?_eq_none.2 fun x hx => ?_
  have := (List.mem_filter.1 hx).2
  simpa using this
theorem spL_spL (le a b : Int) (L : List LeE) : spL le b (spL le a L) = spL le b L := by
  unfold spL
  rw [List.map_map]
  congr 1
  funext y
  by_cases he : y.id = le
  · simp [he]
  · simp [he]
theorem wo_spL (le a : Int) : ∀ (L : List LeE), wo le (spL le a L) = wo le L
  | [] => rfl
  | y :: r => by
    have ih := wo_spL le a r
    have hl : spL le a (y :: r) = (if y.id = le then ⟨y.id, y.tenant, y.shaper, y.epoch, y.number, y.size, a⟩ else y) :: spL le a r := rfl
    rw [hl]
    unfold wo at ih ⊢
    by_cases he : y.id = le
    · rw [if_pos he, List.filter_cons_of_neg (by simp [he]), List.filter_cons_of_neg (by simp [he]), ih]
    · rw [if_neg he, List.filter_cons_of_pos (by simp [he]), List.filter_cons_of_pos (by simp [he]), ih]
/-- one report behind another -/
theorem late_step {s : StE} (h : VS s) {sh ep le a b : Int} {x : LeE} (hx : fndL le s.ls = some x) (h2 : x.shaper = sh) (h3 : x.epoch = ep) (ha : x.spent ≤ a) (ha2 : a ≤ x.size) (hb : x.spent ≤ b) (hb2 : b ≤ x.size) :
    rpS (sweptS (rpL s le a false)) sh ep le b false = sweptS (rpL s le (max a b) false) := by
  have hva := h.late (sp := a) hx ha
  have hvs := hva.swept
  have hck := hva.ck
  by_cases hs : a < x.size
  · have hrl : rpL s le a false = ⟨s.term, s.stamp, s.next, s.ts, spL le a s.ls, s.ss, s.ds⟩ := by unfold rpL; rw [hx]; simp only [Option.getD_some]; rw [if_pos ⟨trivial, hs⟩]
    have hf : fndL le (sweptS (rpL s le a false)).ls = some ⟨x.id, x.tenant, x.shaper, x.epoch, x.number, x.size, a⟩ := by rw [hrl]; exact fndL_spL le a s.ls x hx
    have he := rpE_at sh ep le b hvs.chk hf
    rw [if_pos ⟨h2, h3⟩] at he
    by_cases hab : b < a
    · rw [if_pos (.inl hab)] at he
      rw [rpS_no hvs (by rw [he]; decide), swept_idem hva, show max a b = a by omega]
    · rw [if_neg (by simp only; omega)] at he
      rw [rpS_go hvs he, show max a b = b by omega]
      have hvb := h.late (sp := b) hx hb
      have hle : ∀ t, outL (rpL s le b false).ls t ≤ outL (spL le a s.ls) t := fun t => by
        unfold rpL
        rw [hx]
        simp only [Option.getD_some]
        split
        · show outL (spL le b s.ls) t ≤ _
          rw [← spL_spL le a b]
          refine outL_le_spL le b _ t fun y hy he => ?_
          obtain ⟨z, hz, rfl⟩ := List.mem_map.1 hy
          by_cases hzl : z.id = le
          · rw [if_pos hzl]; show a ≤ b; omega
          · rw [if_neg hzl] at he; exact absurd he hzl
        · show outL (wo le s.ls) t ≤ _
          rw [← wo_spL le a]
          have hsz := hva.size
          rw [hrl] at hsz
          exact outL_le_filter _ _ t hsz
      have e1 : rpL (sweptS (rpL s le a false)) le b false = ⟨s.term, s.stamp, s.next, s.ts.filter (keepS (spL le a s.ls)), (rpL s le b false).ls, s.ss, s.ds⟩ := by
        rw [swept_eq hck, hrl]
        unfold rpL
        simp only
        rw [hx, fndL_spL le a s.ls x hx]
        simp only [Option.getD_some, Bool.false_eq_true, if_false]
        by_cases hbs : b < x.size
        · rw [if_pos ⟨trivial, hbs⟩, if_pos ⟨trivial, hbs⟩, spL_spL]
        · rw [if_neg (by rintro ⟨_, h9⟩; exact hbs h9), if_neg (by rintro ⟨_, h9⟩; exact hbs h9), wo_spL]
      have hts : (rpL s le b false).ts = s.ts := by unfold rpL; simp only; split <;> simp
      have e2 : rpL s le b false = ⟨s.term, s.stamp, s.next, s.ts, (rpL s le b false).ls, s.ss, s.ds⟩ := by unfold rpL; simp only; split <;> simp
      have hck2 : chk (s.ts.filter (keepS (spL le a s.ls))) = true := chkF_filter _ _ _ h.ck
      rw [e1, swept_eq (s := ⟨s.term, s.stamp, s.next, s.ts.filter (keepS (spL le a s.ls)), (rpL s le b false).ls, s.ss, s.ds⟩) hck2, e2, swept_eq (s := ⟨s.term, s.stamp, s.next, s.ts, (rpL s le b false).ls, s.ss, s.ds⟩) h.ck]
      simp only [List.filter_filter]
      congr 1
      refine List.filter_congr fun y hy => ?_
      have := hle y.id
      unfold keepS
      cases hg : y.gone
      · simp
      · by_cases ho : outL (rpL s le b false).ls y.id ≤ 0
        · simp [ho]
        · have : ¬ outL (spL le a s.ls) y.id ≤ 0 := by omega
          simp [ho, this]
  · have hrl : rpL s le a false = ⟨s.term, s.stamp, s.next, s.ts, wo le s.ls, s.ss, s.ds⟩ := by
      unfold rpL; rw [hx]; simp only [Option.getD_some]; rw [if_neg (by rintro ⟨_, h9⟩; exact hs h9)]; simp
    have hf : fndL le (sweptS (rpL s le a false)).ls = none := by rw [hrl]; exact fndL_wo le s.ls
    have he := rpE_no sh ep le b hvs.chk hf
    rw [rpS_no hvs (by rw [he]; decide), swept_idem hva, show max a b = a by omega]
theorem late_first {s : StE} (h : VS s) {sh ep le b : Int} {x : LeE} (hx : fndL le s.ls = some x) (h2 : x.shaper = sh) (h3 : x.epoch = ep) (hb : x.spent ≤ b) (hb2 : b ≤ x.size) : rpE s sh ep le b = 0 ∧ rpS s sh ep le b false = sweptS (rpL s le b false) := by
  have he := rpE_at sh ep le b h.chk hx
  rw [if_pos ⟨h2, h3⟩, if_neg (by omega)] at he
  exact ⟨he, rpS_go h he⟩
theorem late_same {s : StE} (h : VS s) {le : Int} {x : LeE} (hx : fndL le s.ls = some x) : rpL s le x.spent false = s := by
  obtain ⟨hm, hk⟩ := fndL_mem hx
  have hsx := h.size x hm
  obtain ⟨i, hi, he⟩ := List.mem_iff_getElem.1 hm
  have hxi : s.ls[i]? = some x := by rw [List.getElem?_eq_getElem hi, he]
  unfold rpL
  rw [hx]
  simp only [Option.getD_some]
  rw [if_pos ⟨trivial, by omega⟩, ← hk, spL_set s.ls s.ts s.next 0 x.spent i x h.le hxi, set_id _ _ _ hxi]
theorem credit_none {s : StE} (h : VS s) : credS s 0 = sweptS s := by
  unfold credS
  rw [h.chk, if_pos rfl]
  have : s.ts.map (credT s.ls 0) = s.ts := by
    refine (List.map_congr_left fun t ht => ?_).trans (List.map_id _)
    have hm := chk_may h.ck t ht
    have hb := chkF_bd s.ts 0 h.ck t ht
    have hc := cap_at h.cap t ht
    have ho := outL_bd s.ls t.id h.size
    unfold credT
    split
    · rfl
    · have hcr : creditS t.bkt t.rate t.burst (outL s.ls t.id) 0 = t.bkt := by
        unfold creditS cut room
        have hw : within 0 1099511627776 = 0 := by decide
        rw [hw, Int.mul_zero]
        unfold within
        omega
      rw [hcr]
      rfl
  rw [this]
end Go.Proofs.Ytfgnjpdlchimpaa
namespace Go.Proofs.Ytfgnjpdlchimpaa
open Go.RowKit
set_option linter.unusedSimpArgs false
set_option linter.unusedVariables false

theorem fnd_filter (p : TnE → Bool) (key : Int) : ∀ (L : List TnE) (a : Int), chkF a L = true → fnd key (L.filter p) = (fnd key L).filter p
  | [], _, _ => rfl
  | y :: r, a, h => by
    have h0 := h
    unfold chkF at h0
    simp only [Bool.and_eq_true, decide_eq_true_eq] at h0
    have ih := fnd_filter p key r y.id h0.2
    have hgt := chkF_gt r y.id h0.2
    unfold fnd at ih ⊢
    rw [List.filter_cons]
    by_cases he : y.id = key
    · have e0 : List.find? (fun q : TnE => decide (q.id = key)) (y :: r) = some y := List.find?_cons_of_pos (by simp [he])
      rw [e0]
      by_cases hp : p y = true
      · rw [if_pos hp, List.find?_cons_of_pos (by simp [he])]
        simp [Option.filter, hp]
      · rw [if_neg hp]
        have hn : List.find? (fun y => decide (y.id = key)) (r.filter p) = none := List.find?_eq_none.2 fun z hz => by
          have := hgt z (List.mem_filter.1 hz).1
          simp
          omega
        rw [hn]
        simp [Option.filter, hp]
    · have e0 : List.find? (fun q : TnE => decide (q.id = key)) (y :: r) = List.find? (fun q : TnE => decide (q.id = key)) r := List.find?_cons_of_neg (by simp [he])
      rw [e0]
      split
      · rw [List.find?_cons_of_neg (by simp [he])]; exact ih
      · exact ih
theorem fnd_map (f : TnE → TnE) (key : Int) : ∀ (L : List TnE), (∀ y ∈ L, (f y).id = y.id) → fnd key (L.map f) = (fnd key L).map f
  | [], _ => rfl
  | y :: r, h => by
    have hy := h y (by simp)
    have ih := fnd_map f key r (fun z hz => h z (by simp [hz]))
    unfold fnd at ih ⊢
    rw [List.map_cons]
    by_cases he : y.id = key
    · rw [List.find?_cons_of_pos (by simp [hy, he]), List.find?_cons_of_pos (by simp [he])]
      rfl
    · rw [List.find?_cons_of_neg (by simp [hy, he]), List.find?_cons_of_neg (by simp [he])]
      exact ih
theorem chkF_map (f : TnE → TnE) : ∀ (L : List TnE) (a : Int), (∀ y ∈ L, (f y).id = y.id ∧ mayT (f y) = true) → chkF a L = true → chkF a (L.map f) = true
  | [], _, _, _ => rfl
  | y :: r, a, h, hc => by
    have hy := h y (by simp)
    unfold chkF at hc
    simp only [Bool.and_eq_true, decide_eq_true_eq] at hc
    rw [List.map_cons]
    unfold chkF
    simp only [Bool.and_eq_true, decide_eq_true_eq]
    refine ⟨⟨by rw [hy.1]; exact hc.1.1, hy.2⟩, ?_⟩
    rw [hy.1]
    exact chkF_map f r y.id (fun z hz => h z (by simp [hz])) hc.2
theorem VS.map {s : StE} (h : VS s) (f : TnE → TnE) (hf : ∀ y ∈ s.ts, (f y).id = y.id ∧ mayT (f y) = true) (hc : ∀ y ∈ s.ts, 0 < (f y).bkt → (f y).bkt + 1000 * outL s.ls y.id ≤ 1000 * (f y).burst) : VS ⟨s.term, s.stamp, s.next, s.ts.map f, s.ls, s.ss, s.ds⟩ := by
  have hk := chkF_map f s.ts 0 hf h.ck
  refine ⟨hk, lesR_ts _ _ _ _ _ (fun x hx hs => ?_) h.le, h.len, h.n1, h.n2, cap_of fun x hx => ?_⟩
  · rw [fndC_eq _ h.ck] at hs
    rw [fndC_eq _ hk, fnd_map f _ _ (fun y hy => (hf y hy).1)]
    simpa using hs
  · obtain ⟨y, hy, rfl⟩ := List.mem_map.1 hx
    rw [(hf y hy).1]
    exact hc y hy
theorem layR_map (x : TnE) : ∀ (L : List TnE) (a : Int), chkF a L = true → (∃ t ∈ L, t.id = x.id) → layR x L = L.map fun y => if y.id = x.id then x else y
  | [], _, _, h => by obtain ⟨t, h, _⟩ := h; simp at h
  | y :: r, a, hc, h => by
    unfold chkF at hc
    simp only [Bool.and_eq_true, decide_eq_true_eq] at hc
    have hgt := chkF_gt r y.id hc.2
    unfold layR
    rw [List.map_cons]
    by_cases h1 : y.id < x.id
    · rw [if_pos h1, if_neg (by omega), layR_map x r y.id hc.2]
      obtain ⟨t, ht, he⟩ := h
      rcases List.mem_cons.1 ht with rfl | ht
      · omega
      · exact ⟨t, ht, he⟩
    · rw [if_neg h1]
      have hy : y.id = x.id := by
        obtain ⟨t, ht, he⟩ := h
        rcases List.mem_cons.1 ht with rfl | ht
        · exact he
        · have := hgt t ht; omega
      rw [if_pos hy, if_pos hy]
      congr 1
      refine ((List.map_congr_left fun z hz => ?_).trans (List.map_id _)).symm
      have := hgt z hz
      rw [if_neg (by omega)]
      rfl
/-- a tenant's bucket, another one laid -/
def setK (id nb : Int) (y : TnE) : TnE := if y.id = id then ⟨y.id, y.rate, y.burst, nb, y.gone⟩ else y
theorem ids_uniq {L : List TnE} (h : chk L = true) {t : TnE} (ht : t ∈ L) : fnd t.id L = some t := by
  have hgo : ∀ (L : List TnE) (a : Int), chkF a L = true → ∀ t ∈ L, fnd t.id L = some t := by
    intro L
    induction L with
    | nil => intro _ _ t ht; simp at ht
    | cons y r ih =>
      intro a hc t ht
      unfold chkF at hc
      simp only [Bool.and_eq_true, decide_eq_true_eq] at hc
      have hgt := chkF_gt r y.id hc.2
      unfold fnd
      rcases List.mem_cons.1 ht with rfl | ht
      · rw [List.find?_cons_of_pos (by simp)]
      · have := hgt t ht
        rw [List.find?_cons_of_neg (by simp; omega)]
        exact ih y.id hc.2 t ht
  exact hgo L 0 h t ht
theorem setL_map {L : List TnE} (h : chk L = true) {t : TnE} (ht : t ∈ L) (nb : Int) (h0 : 0 ≤ nb) (h1 : nb ≤ 1000000000) (hg : t.gone = false) : setL L ⟨t.id, t.rate, t.burst, nb, t.gone⟩ = L.map (setK t.id nb) := by
  have hm := chk_may h t ht
  have hb : setB L ⟨t.id, t.rate, t.burst, nb, t.gone⟩ = true := by
    unfold setB
    rw [h]
    unfold mayT fullB zeroB at hm ⊢
    simp only [Bool.and_eq_true, decide_eq_true_eq] at hm ⊢
    refine ⟨trivial, ⟨⟨hm.1.1.1, hm.1.1.2⟩, h0, h1⟩, ?_⟩
    simp [hg]
  unfold setL
  rw [if_pos hb, layR_map ⟨t.id, t.rate, t.burst, nb, t.gone⟩ L 0 h ⟨t, ht, rfl⟩]
  refine List.map_congr_left fun y hy => ?_
  unfold setK
  by_cases he : y.id = t.id
  · rw [if_pos he, if_pos he]
    have e1 := ids_uniq h ht
    have e2 := ids_uniq h hy
    rw [he, e1] at e2
    obtain rfl := Option.some.inj e2
    rfl
  · rw [if_neg he, if_neg he]
theorem setK_id (id nb : Int) (y : TnE) : (setK id nb y).id = y.id := by unfold setK; split <;> rfl
theorem setK_ok {L : List TnE} (h : chk L = true) {t : TnE} (ht : t ∈ L) {nb : Int} (h0 : 0 ≤ nb) (h1 : nb ≤ 1000000000) (hg : t.gone = false) : ∀ y ∈ L, (setK t.id nb y).id = y.id ∧ mayT (setK t.id nb y) = true := fun y hy => by
  refine ⟨setK_id _ _ _, ?_⟩
  have hm := chk_may h y hy
  unfold setK
  by_cases he : y.id = t.id
  · have e1 := ids_uniq h ht
    have e2 := ids_uniq h hy
    rw [he, e1] at e2
    obtain rfl := Option.some.inj e2
    rw [if_pos rfl]
    unfold mayT fullB zeroB at hm ⊢
    simp only [Bool.and_eq_true, decide_eq_true_eq] at hm ⊢
    exact ⟨⟨⟨hm.1.1.1, hm.1.1.2⟩, h0, h1⟩, by simp [hg]⟩
  · rw [if_neg he]; exact hm
/-- bucket and what is out -/
def sumS (s : StE) (i : Int) : Int := ((fndC i s.ts).getD z0).bkt + 1000 * outL s.ls i
theorem VS.sum {s : StE} (h : VS s) (i : Int) : sumS s i = ((fnd i s.ts).getD z0).bkt + 1000 * outL s.ls i := by unfold sumS; rw [fndC_eq _ h.ck]
theorem may_gone {x : TnE} (h : mayT x = true) (hg : x.gone = true) : x.bkt = 0 := by
  unfold mayT zeroB at h
  rw [hg] at h
  simp at h
  exact h.2.2
theorem sum_swept {s : StE} (h : VS s) (i : Int) : sumS (sweptS s) i = sumS s i := by
  have hv := h.swept
  rw [hv.sum, h.sum, swept_eq h.ck]
  simp only
  rw [fnd_filter _ _ s.ts 0 h.ck]
  cases hf : fnd i s.ts with
  | none => rfl
  | some y =>
    by_cases hk : keepS s.ls y = true
    · simp [Option.filter, hk]
    · have hg : y.gone = true := by
        unfold keepS at hk
        simp at hk
        exact hk.1
      have := may_gone (chk_may h.ck y (fnd_mem hf).1) hg
      simp [Option.filter, hk, this, z0]
theorem lesR_push : ∀ (L : List LeE) (ts : List TnE) (n a : Int) (e : LeE), lesR ts n a L = true → e.id = n → a < n → leMay ts e = true → lesR ts (n + 1) a (L ++ [e]) = true
  | [], ts, n, a, e, _, he, ha, hm => by
    show lesR ts (n + 1) a [e] = true
    unfold lesR
    simp only [Bool.and_eq_true, decide_eq_true_eq]
    exact ⟨⟨⟨by omega, by omega⟩, hm⟩, rfl⟩
  | y :: r, ts, n, a, e, h, he, ha, hm => by
    unfold lesR at h
    simp only [Bool.and_eq_true, decide_eq_true_eq] at h
    show lesR ts (n + 1) a (y :: (r ++ [e])) = true
    unfold lesR
    simp only [Bool.and_eq_true, decide_eq_true_eq]
    exact ⟨⟨⟨h.1.1.1, by omega⟩, h.1.2⟩, lesR_push r ts n y.id e h.2 he h.1.1.2 hm⟩
/-- a grant -/
theorem VS.grantL {s : StE} (h : VS s) {sh ep nu te size : Int} (he : grE s sh ep nu te size = 0) : VS (grL s sh ep nu te size) ∧ (∀ i, sumS (grL s sh ep nu te size) i = sumS s i) ∧ outL (grL s sh ep nu te size).ls te = outL s.ls te + size := by
  rw [grE_eq] at he
  have ha : argG sh ep nu size = true := by
    cases hq : argG sh ep nu size
    · rw [hq, if_pos rfl] at he; cases he
    · rfl
  rw [ha, if_neg (by decide)] at he
  split at he
  · cases he
  rename_i hnt
  split at he
  · cases he
  rename_i hfull
  have hsm : (fnd te s.ts).isSome = true := by
    cases hq : (fnd te s.ts).isSome
    · exact absurd (.inl hq) hnt
    · rfl
  obtain ⟨t, ht⟩ := Option.isSome_iff_exists.1 hsm
  rw [ht] at he hnt
  simp only [Option.getD_some] at he hnt
  have hg : t.gone = false := by
    cases hq : t.gone
    · rfl
    · exact absurd (.inr hq) hnt
  obtain ⟨hm, hid⟩ := fnd_mem ht
  have hbd := chkF_bd s.ts 0 h.ck t hm
  have hr : takeV t.bkt size = t.bkt - 1000 * size ∧ 0 ≤ t.bkt - 1000 * size := by
    unfold takeE at he
    unfold takeV
    split at he
    · cases he
    · rename_i h9
      rw [if_neg h9]
      refine ⟨rfl, ?_⟩
      unfold poorB wholeS at h9
      simp at h9
      omega
  unfold argG at ha
  simp only [Bool.and_eq_true, decide_eq_true_eq] at ha
  have hgl : grL s sh ep nu te size = ⟨s.term, s.stamp, s.next + 1, s.ts.map (setK t.id (t.bkt - 1000 * size)), s.ls ++ [⟨s.next, te, sh, ep, nu, size, 0⟩], s.ss, s.ds⟩ := by
    unfold grL
    rw [ht]
    simp only [Option.getD_some]
    rw [hr.1, setL_map h.ck hm _ hr.2 (by omega) hg]
  have hok := setK_ok h.ck hm hr.2 (by omega) hg
  have hck := chkF_map _ s.ts 0 hok h.ck
  have hout : ∀ i, outL (s.ls ++ [⟨s.next, te, sh, ep, nu, size, 0⟩]) i = outL s.ls i + (if te = i then size else 0) := fun i => by
    rw [outL_append]
    simp [outL]
  have hfm := fun i => fnd_map (setK t.id (t.bkt - 1000 * size)) i s.ts (fun y hy => (hok y hy).1)
  have hvs : VS (grL s sh ep nu te size) := by
    rw [hgl]
    refine ⟨hck, ?_, ?_, by have := h.n1; show 1 ≤ s.next + 1; omega, by show s.next + 1 ≤ 1099511627776; omega, cap_of fun x hx hb => ?_⟩
    · show lesR (s.ts.map (setK t.id (t.bkt - 1000 * size))) (s.next + 1) 0 (s.ls ++ [⟨s.next, te, sh, ep, nu, size, 0⟩]) = true
      have hsome : ∀ i, (fndC i s.ts).isSome = true → (fndC i (s.ts.map (setK t.id (t.bkt - 1000 * size)))).isSome = true := fun i hi => by
        rw [fndC_eq _ h.ck] at hi
        rw [fndC_eq _ hck, hfm i]
        simpa using hi
      refine lesR_push _ _ _ _ _ (lesR_ts _ _ _ _ _ (fun x _ hs => hsome _ hs) h.le) rfl (by have := h.n1; omega) ?_
      unfold leMay
      simp only [Bool.and_eq_true, decide_eq_true_eq]
      refine ⟨⟨⟨⟨⟨⟨hsome te (by rw [fndC_eq _ h.ck]; exact hsm), ha.1.1.1⟩, ha.1.1.2⟩, ha.1.2⟩, ha.2⟩, Int.le_refl _⟩, by show (0 : Int) < size; omega⟩
    · show (s.ls ++ [_]).length ≤ 64
      rw [List.length_append]
      simp only [List.length_cons, List.length_nil]
      omega
    · obtain ⟨y, hy, rfl⟩ := List.mem_map.1 hx
      have hc := cap_at h.cap y hy
      have hby := chkF_bd s.ts 0 h.ck y hy
      show (setK t.id (t.bkt - 1000 * size) y).bkt + 1000 * outL (s.ls ++ [_]) (setK t.id (t.bkt - 1000 * size) y).id ≤ 1000 * (setK t.id (t.bkt - 1000 * size) y).burst
      rw [setK_id, hout]
      unfold setK at hb ⊢
      by_cases hyt : y.id = t.id
      · have e1 := ids_uniq h.ck hm
        have e2 := ids_uniq h.ck hy
        rw [hyt, e1] at e2
        obtain rfl := Option.some.inj e2
        rw [if_pos rfl] at hb ⊢
        rw [if_pos hid.symm]
        simp only at hb ⊢
        have := hc (by omega)
        omega
      · rw [if_neg hyt] at hb ⊢
        rw [if_neg (by rw [← hid]; exact fun e => hyt e.symm)]
        have := hc hb
        omega
  refine ⟨hvs, fun i => ?_, ?_⟩
  · rw [hvs.sum, h.sum, hgl]
    simp only
    rw [hfm i, hout]
    cases hf : fnd i s.ts with
    | none =>
      have hne : ¬ te = i := fun e => by rw [← e, ht] at hf; cases hf
      rw [if_neg hne]
      simp
    | some y =>
      simp only [Option.map_some, Option.getD_some]
      unfold setK
      by_cases hie : te = i
      · subst hie
        rw [ht] at hf
        obtain rfl := Option.some.inj hf
        rw [if_pos rfl, if_pos rfl]
        simp only
        omega
      · rw [if_neg hie, if_neg (by rw [(fnd_mem hf).2, hid]; exact fun e => hie e.symm)]
        omega
  · rw [hgl]
    show outL (s.ls ++ [_]) te = _
    rw [hout, if_pos rfl]
theorem grant_cap {s : StE} (h : VS s) (sh ep nu te size : Int) : VS (grS s sh ep nu te size) ∧ (∀ i, sumS (grS s sh ep nu te size) i = sumS s i) ∧ (grE s sh ep nu te size = 0 → outL (grS s sh ep nu te size).ls te = outL s.ls te + size) := by
  unfold grS
  rw [h.chk, if_pos rfl]
  by_cases he : grE s sh ep nu te size = 0
  · rw [if_pos he]
    obtain ⟨h1, h2, h3⟩ := h.grantL he
    exact ⟨h1.swept, fun i => (sum_swept h1 i).trans (h2 i), fun _ => h3⟩
  · rw [if_neg he]
    exact ⟨h.swept, fun i => sum_swept h i, fun e => absurd e he⟩
/-- other leases: no more than before -/
theorem sum_leases {s : StE} (h : VS s) {L : List LeE} (hv : VS ⟨s.term, s.stamp, s.next, s.ts, L, s.ss, s.ds⟩) (h3 : ∀ t, outL L t ≤ outL s.ls t) (i : Int) : sumS ⟨s.term, s.stamp, s.next, s.ts, L, s.ss, s.ds⟩ i ≤ sumS s i := by
  rw [hv.sum, h.sum]
  have := h3 i
  simp only
  omega
theorem outL_wo_le (le : Int) (x : LeE) (t : Int) : ∀ (L : List LeE), sizeB L → x ∈ L → x.id = le → outL (wo le L) t + (if x.tenant = t then x.size - x.spent else 0) ≤ outL L t
  | [], _, h, _ => absurd h (by simp)
  | y :: r, hz, h, he => by
    have hzr : sizeB r := fun z hz' => hz z (by simp [hz'])
    have hy := hz y (by simp)
    have hle := outL_le_filter (fun y => !decide (y.id = le)) r t hzr
    rw [show outL (y :: r) t = (if y.tenant = t then y.size - y.spent else 0) + outL r t from rfl]
    rcases List.mem_cons.1 h with rfl | h
    · have : wo le (x :: r) = wo le r := by unfold wo; rw [List.filter_cons_of_neg (by simp [he])]
      rw [this]
      unfold wo
      omega
    · have ih := outL_wo_le le x t r hzr h he
      unfold wo at ih ⊢
      rw [List.filter_cons]
      split
      · rw [show ∀ q, outL (y :: q) t = (if y.tenant = t then y.size - y.spent else 0) + outL q t from fun _ => rfl]
        omega
      · split <;> omega
theorem expire_cap {s : StE} (h : VS s) (l : List Int) : VS (exS s l) ∧ ∀ i, sumS (exS s l) i ≤ sumS s i := by
  unfold exS
  rw [h.chk, if_pos rfl]
  have hle := fun t => outL_le_filter (fun y => !l.contains y.id) s.ls t h.size
  have hv := h.leases (s.ls.filter fun y => !l.contains y.id) (lesR_filter _ _ _ _ _ h.le) (Nat.le_trans (List.length_filter_le _ _) h.len) hle
  exact ⟨hv.swept, fun i => by rw [sum_swept hv]; exact sum_leases h hv hle i⟩
theorem VS.wo {s : StE} (h : VS s) (le : Int) : VS ⟨s.term, s.stamp, s.next, s.ts, wo le s.ls, s.ss, s.ds⟩ :=
  h.leases _ (lesR_filter _ _ _ _ _ h.le) (Nat.le_trans (List.length_filter_le _ _) h.len) (fun t => outL_le_filter _ _ t h.size)
theorem report_cap {s : StE} (h : VS s) (sh ep le sp : Int) (cl : Bool) : VS (rpS s sh ep le sp cl) ∧ ∀ i, sumS (rpS s sh ep le sp cl) i ≤ sumS s i := by
  by_cases he : rpE s sh ep le sp = 0
  · rw [rpS_go h he]
    have hfx : ∃ x, fndL le s.ls = some x ∧ x.spent ≤ sp ∧ sp ≤ x.size := by
      cases hq : fndL le s.ls with
      | none => rw [rpE_no sh ep le sp h.chk hq] at he; cases he
      | some x =>
        rw [rpE_at sh ep le sp h.chk hq] at he
        split at he
        · split at he
          · cases he
          · exact ⟨x, rfl, by omega, by omega⟩
        · cases he
    obtain ⟨x, hx, h1, h2⟩ := hfx
    obtain ⟨hm, hk⟩ := fndL_mem hx
    have hsx := h.size x hm
    have hw := h.wo le
    have hwl := fun t => outL_le_filter (fun y => !decide (y.id = le)) s.ls t h.size
    suffices hh : VS (rpL s le sp cl) ∧ ∀ i, sumS (rpL s le sp cl) i ≤ sumS s i from ⟨hh.1.swept, fun i => by rw [sum_swept hh.1]; exact hh.2 i⟩
    cases cl with
    | false =>
      have hv := h.late (sp := sp) hx h1
      have e2 : rpL s le sp false = ⟨s.term, s.stamp, s.next, s.ts, (rpL s le sp false).ls, s.ss, s.ds⟩ := by unfold rpL; simp only; split <;> simp
      have hle : ∀ t, outL (rpL s le sp false).ls t ≤ outL s.ls t := fun t => by
        unfold rpL
        rw [hx]
        simp only [Option.getD_some]
        split
        · exact outL_le_spL le sp s.ls t fun y hy he => by rw [lease_uniq h hx y hy he]; exact h1
        · exact hwl t
      refine ⟨hv, fun i => ?_⟩
      rw [e2] at hv ⊢
      exact sum_leases h hv hle i
    | true =>
      have e1 : rpL s le sp true = ⟨s.term, s.stamp, s.next, bkL s.ts x.tenant (outL (wo le s.ls) x.tenant) (x.size - sp), wo le s.ls, s.ss, s.ds⟩ := by
        unfold rpL
        rw [hx]
        simp
      rw [e1]
      have hts := lesR_may _ _ _ _ h.le x hm
      rw [fndC_eq _ h.ck] at hts
      obtain ⟨t, ht⟩ := Option.isSome_iff_exists.1 hts
      obtain ⟨htm, hti⟩ := fnd_mem ht
      have hbt := chkF_bd s.ts 0 h.ck t htm
      unfold bkL
      rw [fndC_eq _ h.ck, ht]
      simp only [Option.getD_some]
      cases hg : t.gone
      · rw [if_neg (by decide)]
        have hnb := backS_bd t.bkt t.burst (outL (wo le s.ls) x.tenant) (x.size - sp)
        obtain ⟨nb, hnbe⟩ : ∃ nb, nb = backS t.bkt t.burst (outL (wo le s.ls) x.tenant) (x.size - sp) := ⟨_, rfl⟩
        rw [← hnbe] at hnb ⊢
        have hsl := setL_map h.ck htm nb hnb.1 hnb.2 hg
        rw [hg] at hsl
        rw [hsl]
        have hok := setK_ok h.ck htm hnb.1 hnb.2 hg
        have hob := outL_bd (wo le s.ls) x.tenant hw.size
        have hnbo : nb ≤ t.bkt + 1000 * (x.size - sp) ∧ (0 < nb → nb + 1000 * outL (wo le s.ls) x.tenant ≤ 1000 * t.burst) := by
          rw [hnbe]
          unfold backS cut room within
          omega
        have hv : VS ⟨s.term, s.stamp, s.next, s.ts.map (setK t.id nb), wo le s.ls, s.ss, s.ds⟩ := hw.map (setK t.id nb) hok (fun y hy hb => by
          have hc := cap_at hw.cap y hy
          show (setK t.id nb y).bkt + 1000 * outL (wo le s.ls) y.id ≤ 1000 * (setK t.id nb y).burst
          unfold setK at hb ⊢
          by_cases hyt : y.id = t.id
          · have e1 := ids_uniq h.ck htm
            have e2 := ids_uniq h.ck hy
            rw [hyt, e1] at e2
            obtain rfl := Option.some.inj e2
            rw [if_pos rfl] at hb ⊢
            simp only at hb ⊢
            rw [hti]
            exact hnbo.2 hb
          · rw [if_neg hyt] at hb ⊢
            exact hc hb)
        refine ⟨hv, fun i => ?_⟩
        rw [hv.sum, h.sum]
        simp only
        rw [fnd_map _ i s.ts (fun y hy => (hok y hy).1)]
        have hwo := outL_wo_le le x i s.ls h.size hm hk
        have hwi := hwl i
        cases hf : fnd i s.ts with
        | none => simp only [Option.map_none, Option.getD_none]; show z0.bkt + 1000 * outL (wo le s.ls) i ≤ z0.bkt + _; unfold wo; omega
        | some y =>
          simp only [Option.map_some, Option.getD_some]
          unfold setK
          by_cases hie : x.tenant = i
          · subst hie
            rw [ht] at hf
            obtain rfl := Option.some.inj hf
            rw [if_pos rfl] at hwo
            rw [if_pos rfl]
            simp only
            omega
          · rw [if_neg (by rw [(fnd_mem hf).2, hti]; exact fun e => hie e.symm)]
            unfold wo
            omega
      · rw [if_pos rfl]
        exact ⟨hw, fun i => sum_leases h hw hwl i⟩
  · rw [rpS_no h he]
    exact ⟨h.swept, fun i => Int.le_of_eq (sum_swept h i)⟩
theorem credit_cap {s : StE} (h : VS s) (ticks : Int) (t0 : 0 ≤ ticks) (t1 : ticks ≤ 1048576) : VS (credS s ticks) ∧ ∀ i, sumS (credS s ticks) i ≤ sumS s i + ((fndC i s.ts).getD z0).rate * ticks := by
  unfold credS
  rw [h.chk, if_pos rfl]
  have hid : ∀ y, (credT s.ls ticks y).id = y.id := fun y => by unfold credT; split <;> rfl
  have hcr : ∀ y ∈ s.ts, y.gone = false → 0 ≤ creditS y.bkt y.rate y.burst (outL s.ls y.id) ticks ∧ creditS y.bkt y.rate y.burst (outL s.ls y.id) ticks ≤ 1000000000 ∧ creditS y.bkt y.rate y.burst (outL s.ls y.id) ticks ≤ y.bkt + y.rate * ticks ∧ (0 < creditS y.bkt y.rate y.burst (outL s.ls y.id) ticks → creditS y.bkt y.rate y.burst (outL s.ls y.id) ticks + 1000 * outL s.ls y.id ≤ 1000 * y.burst) := fun y hy _ => by
    have hb := chkF_bd s.ts 0 h.ck y hy
    have hm := chk_may h.ck y hy
    have ho := outL_bd s.ls y.id h.size
    have hr : 0 ≤ y.rate ∧ y.rate ≤ 1000000 := by
      unfold mayT mayB at hm
      simp only [Bool.and_eq_true, decide_eq_true_eq] at hm
      exact ⟨hm.1.1.2.1, hm.1.1.2.2.1⟩
    have hbd := creditS_bd y.bkt y.rate y.burst (outL s.ls y.id) ticks
    have e1 : within y.rate 1000000 = y.rate := by unfold within; omega
    have e2 : within ticks 1099511627776 = ticks := by unfold within; omega
    have hp : 0 ≤ y.rate * ticks := Int.mul_nonneg hr.1 t0
    refine ⟨hbd.1, hbd.2, ?_, ?_⟩
    · unfold creditS cut
      rw [e1, e2]
      generalize y.rate * ticks = q at hp ⊢
      unfold within
      omega
    · unfold creditS cut room
      rw [e1, e2]
      generalize y.rate * ticks = q at hp ⊢
      unfold within
      omega
  have hv : VS ⟨s.term, s.stamp, s.next, s.ts.map (credT s.ls ticks), s.ls, s.ss, s.ds⟩ := h.map (credT s.ls ticks) (fun y hy => ⟨hid y, by
      have hm := chk_may h.ck y hy
      unfold credT
      cases hg : y.gone
      · rw [if_neg (by decide)]
        have hc := hcr y hy hg
        unfold mayT fullB zeroB at hm ⊢
        simp only [Bool.and_eq_true, decide_eq_true_eq] at hm ⊢
        exact ⟨⟨hm.1.1, hc.1, hc.2.1⟩, by simp⟩
      · rw [if_pos rfl]; exact hm⟩) (fun y hy hb => by
      have hc := cap_at h.cap y hy
      unfold credT at hb ⊢
      cases hg : y.gone
      · rw [hg, if_neg (by decide)] at hb
        rw [if_neg (by decide)]
        exact (hcr y hy hg).2.2.2 hb
      · rw [hg, if_pos rfl] at hb
        rw [if_pos rfl]
        exact hc hb)
  refine ⟨hv.swept, fun i => ?_⟩
  rw [sum_swept hv, hv.sum, h.sum, fndC_eq _ h.ck]
  simp only
  rw [fnd_map _ i s.ts (fun y _ => hid y)]
  cases hf : fnd i s.ts with
  | none => simp [z0]
  | some y =>
    simp only [Option.map_some, Option.getD_some]
    obtain ⟨hy, hyi⟩ := fnd_mem hf
    have hm := chk_may h.ck y hy
    have hr : 0 ≤ y.rate := by
      unfold mayT mayB at hm
      simp only [Bool.and_eq_true, decide_eq_true_eq] at hm
      exact hm.1.1.2.1
    have hp : 0 ≤ y.rate * ticks := Int.mul_nonneg hr t0
    unfold credT
    cases hg : y.gone
    · rw [if_neg (by decide)]
      have hc := (hcr y hy hg).2.2.1
      rw [hyi] at hc ⊢
      simp only
      omega
    · rw [if_pos rfl]
      omega
end Go.Proofs.Ytfgnjpdlchimpaa
namespace Go.Proofs.Ytfgnjpdlchimpaa
open Go.RowKit
set_option linter.unusedSimpArgs false
set_option linter.unusedVariables false

set_option maxRecDepth 100000 in
set_option maxHeartbeats 16000000 in
theorem credit_led (v : Value) (s : StE) (ticks : Int) (w : World) (h : SV w v s) (hf : fewS s) :
    Calls Try.prog 18 #[v, .int .i64 ticks] w fun e w' => ∃ v', e = .returned v' ∧ SV w' v' (credS s ticks) ∧ Below w.heap.size w w' := by
  have zl : ∀ u, (zeroValue 3).run Try.prog u = .ok (.int .i64 0) u := fun u => by kernel_rfl
  have HKW := Lib.hid (fun (X : World) (b : Nat) (G : Int → Int) (x : Int) (h : MapT X b (fun c : Int => Value.agg #[.int .i64 c]) G) => h.look key_whose Try.underlying63 (zl X) x)
  clear zl
  have HFEW := Lib.hid hf
  obtain ⟨f1, f2, f3, f4⟩ := hf
  obtain ⟨vt, vl, vs, vd, rfl, ht, hl, hs, hd⟩ := h
  obtain ⟨ta, tn, tc, rfl, Htn, tn1, tn2⟩ := ht.sh
  obtain ⟨la, ln, lc, rfl, Hln, ln1, ln2⟩ := hl.sh
  obtain ⟨sa, sn, sc, rfl, Hsn, sn1, sn2⟩ := hs.sh
  obtain ⟨da, dn, dc, rfl, Hdn, dn1, dn2⟩ := hd.sh
  have HT0 := Lib.hid ht
  have HL0 := Lib.hid hl
  have HS0 := Lib.hid hs
  have HD0 := Lib.hid hd
  have HT := Lib.hid ht
  have HL := Lib.hid hl
  have HS := Lib.hid hs
  have HD := Lib.hid hd
  clear ht hl hs hd
  rw [← Hln.out] at f2
  rw [← Htn.out] at f1
  have HSV : Hid (∀ W, TV W (.slice ta tn tc) s.ts → LeV W (.slice la ln lc) s.ls → SeV W (.slice sa sn sc) s.ss → DkV W (.slice da dn dc) s.ds → SV W (.agg #[.int .i64 s.term, .int .i64 s.stamp, .int .i64 s.next, .slice ta tn tc, .slice la ln lc, .slice sa sn sc, .slice da dn dc]) s) := Lib.hid (fun W h1 h2 h3 h4 => ⟨_, _, _, _, rfl, h1, h2, h3, h4⟩)
  have HCK := Lib.hid (fun W v (h : SV W v s) => checkS_any v s W h HFEW.out)
  have HTW := Lib.hid (fun W v (h : SV W v s) => twinO_any v s W h HFEW.out)
  obtain ⟨C, hC⟩ : ∃ C, C = chkS s := ⟨_, rfl⟩
  have HSZ := Lib.hid (fun h : C = true => lesB_size (s := s) (by rw [hC] at h; unfold chkS at h; simp only [Bool.and_eq_true] at h; exact h.1.2))
  rw [← hC] at HCK
  have HCE := Lib.hid hC
  clear hC
  obtain ⟨R, hR⟩ : ∃ R, R = credS s ticks := ⟨_, rfl⟩
  rw [← hR]
  unfold credS at hR
  rw [← HCE.out] at hR
  have HR9 := Lib.hid hR
  clear hR
  obtain ⟨F, hF⟩ : ∃ F : Nat → List TnE, F = mapK (credT s.ls ticks) s.ts := ⟨_, rfl⟩
  have HF0 : Hid (F 0 = s.ts) := Lib.hid (by rw [hF]; exact mapK_zero _ _)
  have HFL : Hid (∀ k, k ≤ tn → (F k).length = tn) := Lib.hid (fun k hk => by rw [hF, mapK_len _ _ _ (by rw [← Htn.out]; exact hk), ← Htn.out])
  have HFE : Hid (F tn = s.ts.map (credT s.ls ticks)) := Lib.hid (by rw [hF, Htn.out]; exact mapK_end _ _)
  have HFA : Hid (∀ k x, s.ts[k]? = some x → (F k)[k]? = some x) := Lib.hid (fun k x h => by rw [hF]; exact mapK_at _ _ _ _ h)
  have HFS : Hid (∀ k x, s.ts[k]? = some x → F (k + 1) = (F k).set k (credT s.ls ticks x)) := Lib.hid (fun k x h => by rw [hF]; exact mapK_succ _ _ _ _ h)
  clear hF
  have HB : Hid (Below w.heap.size w w) := Lib.hid (Below.refl _ _)
  have hmf : ∀ (fn : Fn) (first cap : Array Value) (w : World), (Instr.makeFunc fn first cap).run Try.prog w = .ok (.func fn first cap) w := fun _ _ _ _ => rfl
  go_enter_defers Try.func18, Try.ntmps18
  go_upto_region 1 with fail
  obtain ⟨N, hN⟩ : ∃ n0, n0 = w.heap.size := ⟨_, rfl⟩
  have HLON : Hid (w.heap.size ≤ N) := Lib.hid (by have := HB.out.size; omega)
  obtain ⟨W1, hA0⟩ : ∃ W0, W0 = w.alloc (.cells #[.int .i64 s.term, .int .i64 s.stamp, .int .i64 s.next, .slice ta tn tc, .slice la ln lc, .slice sa sn sc, .slice da dn dc] 27) := ⟨_, rfl⟩
  have hB : Below w.heap.size w W1 := by rw [hA0]; exact (Below.refl _ _).alloc (Nat.le_refl _) _
  have hS0 : W1.heap.size = N + 1 := by rw [hA0]; simp [← hN]
  have HR := Lib.hid (show Blk W1 N #[.int .i64 s.term, .int .i64 s.stamp, .int .i64 s.next, .slice ta tn tc, .slice la ln lc, .slice sa sn sc, .slice da dn dc] 27 by rw [hA0, hN]; exact blk_new _ _ _)
  replace HB := Lib.hid (HB.out.trans (hB.mono HB.out.size))
  replace HT := Lib.hid (HT0.out.below HB.out)
  replace HL := Lib.hid (HL0.out.below HB.out)
  replace HS := Lib.hid (HS0.out.below HB.out)
  replace HD := Lib.hid (HD0.out.below HB.out)
  clear hB
  obtain ⟨W2, hA1⟩ : ∃ W0, W0 = W1.alloc (.cells #[.int .i64 0, .int .i64 0, .int .i64 0, .slice none 0 0, .slice none 0 0, .slice none 0 0, .slice none 0 0] 27) := ⟨_, rfl⟩
  have hB : Below W1.heap.size W1 W2 := by rw [hA1]; exact (Below.refl _ _).alloc (Nat.le_refl _) _
  have hS1 : W2.heap.size = N + 2 := by rw [hA1]; simp [hS0]
  have HO := Lib.hid (show Blk W2 (N + 1) #[.int .i64 0, .int .i64 0, .int .i64 0, .slice none 0 0, .slice none 0 0, .slice none 0 0, .slice none 0 0] 27 by rw [hA1, ← hS0]; exact blk_new _ _ _)
  replace HB := Lib.hid (HB.out.trans (hB.mono HB.out.size))
  replace HT := Lib.hid (HT0.out.below HB.out)
  replace HL := Lib.hid (HL0.out.below HB.out)
  replace HS := Lib.hid (HS0.out.below HB.out)
  replace HD := Lib.hid (HD0.out.below HB.out)
  replace HR := Lib.hid (HR.out.step hB)
  clear hB
  have HSN := Lib.hid hS1
  rw [← hN, ← hA0, ← hA1]
  clear hA1 hA0 hN hS0 hS1
  have qR0 : W2.cell? ⟨N, 0, none⟩ = some (.int .i64 s.term) := cell_at HR.out 0
  have qR1 : W2.cell? ⟨N, 1, none⟩ = some (.int .i64 s.stamp) := cell_at HR.out 1
  have qR2 : W2.cell? ⟨N, 2, none⟩ = some (.int .i64 s.next) := cell_at HR.out 2
  have qR3 : W2.cell? ⟨N, 3, none⟩ = some (.slice ta tn tc) := cell_at HR.out 3
  have qR4 : W2.cell? ⟨N, 4, none⟩ = some (.slice la ln lc) := cell_at HR.out 4
  have qR5 : W2.cell? ⟨N, 5, none⟩ = some (.slice sa sn sc) := cell_at HR.out 5
  have qR6 : W2.cell? ⟨N, 6, none⟩ = some (.slice da dn dc) := cell_at HR.out 6
  have qRz : ∀ j, W2.frozen? ⟨N, j, none⟩ = false := fun j => free_at HR.out j
  have qRl : N < W2.heap.size := HR.out.lt
  have FOO := Lib.hid HO.out.lt
  have HB0L : Hid (w.heap.size ≤ W2.heap.size) := Lib.hid HB.out.size
  go_wp2_with fail
  go_at_call 36
  go_fit (HTW.out _ _ (HSV.out _ HT.out HL.out HS.out HD.out))
  rintro e W3 ⟨v2, rfl, hso, hB⟩
  clear qR0 qR1 qR2 qR3 qR4 qR5 qR6 qRz qRl
  replace HB := Lib.hid (HB.out.trans (hB.mono HB.out.size))
  replace HT := Lib.hid (HT0.out.below HB.out)
  replace HL := Lib.hid (HL0.out.below HB.out)
  replace HS := Lib.hid (HS0.out.below HB.out)
  replace HD := Lib.hid (HD0.out.below HB.out)
  replace HR := Lib.hid (HR.out.step hB)
  replace HO := Lib.hid (HO.out.step hB)
  clear hB
  obtain ⟨vt2, vl2, vs2, vd2, ot, ol, os, od, rfl, o1, o2, o3, o4⟩ := hso
  obtain ⟨b1, m1, k1, rfl, Hb1, x1, y1⟩ := o1.v.sh
  obtain ⟨b2, m2, k2, rfl, Hb2, x2, y2⟩ := o2.v.sh
  obtain ⟨b3, m3, k3, rfl, Hb3, x3, y3⟩ := o3.v.sh
  obtain ⟨b4, m4, k4, rfl, Hb4, x4, y4⟩ := o4.v.sh
  have O1 := Lib.hid o1
  have FO1 := Lib.hid (show (N + 1) < W2.heap.size from FOO.out)
  have O2 := Lib.hid o2
  have FO2 := Lib.hid (show (N + 1) < W2.heap.size from FOO.out)
  have O3 := Lib.hid o3
  have FO3 := Lib.hid (show (N + 1) < W2.heap.size from FOO.out)
  have O4 := Lib.hid o4
  have FO4 := Lib.hid (show (N + 1) < W2.heap.size from FOO.out)
  clear o1 o2 o3 o4
  have qO0 : W3.cell? ⟨(N + 1), 0, none⟩ = some (.int .i64 0) := cell_at HO.out 0
  have qO1 : W3.cell? ⟨(N + 1), 1, none⟩ = some (.int .i64 0) := cell_at HO.out 1
  have qO2 : W3.cell? ⟨(N + 1), 2, none⟩ = some (.int .i64 0) := cell_at HO.out 2
  have qO3 : W3.cell? ⟨(N + 1), 3, none⟩ = some (.slice none 0 0) := cell_at HO.out 3
  have qO4 : W3.cell? ⟨(N + 1), 4, none⟩ = some (.slice none 0 0) := cell_at HO.out 4
  have qO5 : W3.cell? ⟨(N + 1), 5, none⟩ = some (.slice none 0 0) := cell_at HO.out 5
  have qO6 : W3.cell? ⟨(N + 1), 6, none⟩ = some (.slice none 0 0) := cell_at HO.out 6
  have qOz : ∀ j, W3.frozen? ⟨(N + 1), j, none⟩ = false := fun j => free_at HO.out j
  have qOl : (N + 1) < W3.heap.size := HO.out.lt
  go_upto_region 2 with fail
  clear qO0 qO1 qO2 qO3 qO4 qO5 qO6 qOz qOl
  obtain ⟨LS, hLS⟩ : ∃ L : List Value, L = [.int .i64 s.term, .int .i64 s.stamp, .int .i64 s.next, .slice b1 m1 k1, .slice b2 m2 k2, .slice b3 m3 k3, .slice b4 m4 k4] := ⟨_, rfl⟩
  obtain ⟨W4, hWS⟩ : ∃ WS, WS = W3.setCells (N + 1) 0 LS := ⟨_, rfl⟩
  have hch := hWS
  rw [hLS] at hch
  simp only [World.setCells, Nat.zero_add, Nat.reduceAdd] at hch
  rw [← hch]
  clear hch
  have hkS := stC_blk HO.out LS (by rw [hLS]; rfl)
  have hfS := stC_fr (N + 1) LS 0 W3
  rw [← hWS] at hkS hfS
  rw [hLS] at hkS
  replace HB := Lib.hid (HB.out.trans (hfS.below HB.out.size (by have := HLON.out; simp; try omega)))
  replace HT := Lib.hid (HT0.out.below HB.out)
  replace HL := Lib.hid (HL0.out.below HB.out)
  replace HS := Lib.hid (HS0.out.below HB.out)
  replace HD := Lib.hid (HD0.out.below HB.out)
  replace HR := Lib.hid (show Blk W4 N #[.int .i64 s.term, .int .i64 s.stamp, .int .i64 s.next, .slice ta tn tc, .slice la ln lc, .slice sa sn sc, .slice da dn dc] 27 from (hfS.block _ HR.out.lt (by simp; try omega)).trans HR.out)
  replace O1 := Lib.hid (O1.out.fr hfS (by have := FO1.out; omega))
  replace O2 := Lib.hid (O2.out.fr hfS (by have := FO2.out; omega))
  replace O3 := Lib.hid (O3.out.fr hfS (by have := FO3.out; omega))
  replace O4 := Lib.hid (O4.out.fr hfS (by have := FO4.out; omega))
  replace HO := Lib.hid (show Blk W4 (N + 1) #[.int .i64 s.term, .int .i64 s.stamp, .int .i64 s.next, .slice b1 m1 k1, .slice b2 m2 k2, .slice b3 m3 k3, .slice b4 m4 k4] 27 from hkS)
  clear hWS hLS hkS hfS
  have qR0 : W4.cell? ⟨N, 0, none⟩ = some (.int .i64 s.term) := cell_at HR.out 0
  have qR1 : W4.cell? ⟨N, 1, none⟩ = some (.int .i64 s.stamp) := cell_at HR.out 1
  have qR2 : W4.cell? ⟨N, 2, none⟩ = some (.int .i64 s.next) := cell_at HR.out 2
  have qR3 : W4.cell? ⟨N, 3, none⟩ = some (.slice ta tn tc) := cell_at HR.out 3
  have qR4 : W4.cell? ⟨N, 4, none⟩ = some (.slice la ln lc) := cell_at HR.out 4
  have qR5 : W4.cell? ⟨N, 5, none⟩ = some (.slice sa sn sc) := cell_at HR.out 5
  have qR6 : W4.cell? ⟨N, 6, none⟩ = some (.slice da dn dc) := cell_at HR.out 6
  have qRz : ∀ j, W4.frozen? ⟨N, j, none⟩ = false := fun j => free_at HR.out j
  have qRl : N < W4.heap.size := HR.out.lt
  go_wp2_with fail
  go_at_call 16
  go_fit (HCK.out _ _ (HSV.out _ HT.out HL.out HS.out HD.out))
  rintro e W5 ⟨rfl, hB⟩
  clear qR0 qR1 qR2 qR3 qR4 qR5 qR6 qRz qRl
  replace HB := Lib.hid (HB.out.trans (hB.mono HB.out.size))
  replace HT := Lib.hid (HT0.out.below HB.out)
  replace HL := Lib.hid (HL0.out.below HB.out)
  replace HS := Lib.hid (HS0.out.below HB.out)
  replace HD := Lib.hid (HD0.out.below HB.out)
  replace HR := Lib.hid (HR.out.step hB)
  replace HO := Lib.hid (HO.out.step hB)
  replace O1 := Lib.hid (O1.out.step hB)
  replace O2 := Lib.hid (O2.out.step hB)
  replace O3 := Lib.hid (O3.out.step hB)
  replace O4 := Lib.hid (O4.out.step hB)
  clear hB
  cases C
  · skip
    have qO0 : W5.cell? ⟨(N + 1), 0, none⟩ = some (.int .i64 s.term) := cell_at HO.out 0
    have qO1 : W5.cell? ⟨(N + 1), 1, none⟩ = some (.int .i64 s.stamp) := cell_at HO.out 1
    have qO2 : W5.cell? ⟨(N + 1), 2, none⟩ = some (.int .i64 s.next) := cell_at HO.out 2
    have qO3 : W5.cell? ⟨(N + 1), 3, none⟩ = some (.slice b1 m1 k1) := cell_at HO.out 3
    have qO4 : W5.cell? ⟨(N + 1), 4, none⟩ = some (.slice b2 m2 k2) := cell_at HO.out 4
    have qO5 : W5.cell? ⟨(N + 1), 5, none⟩ = some (.slice b3 m3 k3) := cell_at HO.out 5
    have qO6 : W5.cell? ⟨(N + 1), 6, none⟩ = some (.slice b4 m4 k4) := cell_at HO.out 6
    have qOz : ∀ j, W5.frozen? ⟨(N + 1), j, none⟩ = false := fun j => free_at HO.out j
    have qOl : (N + 1) < W5.heap.size := HO.out.lt
    go_wp2_with fail
    clear qO0 qO1 qO2 qO3 qO4 qO5 qO6 qOz qOl
    obtain ⟨LS, hLS⟩ : ∃ L : List Value, L = [.int .i64 s.term, .int .i64 s.stamp, .int .i64 s.next, .slice b1 m1 k1, .slice b2 m2 k2, .slice b3 m3 k3, .slice b4 m4 k4] := ⟨_, rfl⟩
    obtain ⟨W6, hWS⟩ : ∃ WS, WS = W5.setCells (N + 1) 0 LS := ⟨_, rfl⟩
    have hch := hWS
    rw [hLS] at hch
    simp only [World.setCells, Nat.zero_add, Nat.reduceAdd] at hch
    rw [← hch]
    clear hch
    have hkS := stC_blk HO.out LS (by rw [hLS]; rfl)
    have hfS := stC_fr (N + 1) LS 0 W5
    rw [← hWS] at hkS hfS
    rw [hLS] at hkS
    replace HB := Lib.hid (HB.out.trans (hfS.below HB.out.size (by have := HLON.out; simp; try omega)))
    replace HT := Lib.hid (HT0.out.below HB.out)
    replace HL := Lib.hid (HL0.out.below HB.out)
    replace HS := Lib.hid (HS0.out.below HB.out)
    replace HD := Lib.hid (HD0.out.below HB.out)
    replace HR := Lib.hid (show Blk W6 N #[.int .i64 s.term, .int .i64 s.stamp, .int .i64 s.next, .slice ta tn tc, .slice la ln lc, .slice sa sn sc, .slice da dn dc] 27 from (hfS.block _ HR.out.lt (by simp; try omega)).trans HR.out)
    replace O1 := Lib.hid (O1.out.fr hfS (by have := FO1.out; omega))
    replace O2 := Lib.hid (O2.out.fr hfS (by have := FO2.out; omega))
    replace O3 := Lib.hid (O3.out.fr hfS (by have := FO3.out; omega))
    replace O4 := Lib.hid (O4.out.fr hfS (by have := FO4.out; omega))
    replace HO := Lib.hid (show Blk W6 (N + 1) #[.int .i64 s.term, .int .i64 s.stamp, .int .i64 s.next, .slice b1 m1 k1, .slice b2 m2 k2, .slice b3 m3 k3, .slice b4 m4 k4] 27 from hkS)
    clear hWS hLS hkS hfS
    have qO0 : W6.cell? ⟨(N + 1), 0, none⟩ = some (.int .i64 s.term) := cell_at HO.out 0
    have qO1 : W6.cell? ⟨(N + 1), 1, none⟩ = some (.int .i64 s.stamp) := cell_at HO.out 1
    have qO2 : W6.cell? ⟨(N + 1), 2, none⟩ = some (.int .i64 s.next) := cell_at HO.out 2
    have qO3 : W6.cell? ⟨(N + 1), 3, none⟩ = some (.slice b1 m1 k1) := cell_at HO.out 3
    have qO4 : W6.cell? ⟨(N + 1), 4, none⟩ = some (.slice b2 m2 k2) := cell_at HO.out 4
    have qO5 : W6.cell? ⟨(N + 1), 5, none⟩ = some (.slice b3 m3 k3) := cell_at HO.out 5
    have qO6 : W6.cell? ⟨(N + 1), 6, none⟩ = some (.slice b4 m4 k4) := cell_at HO.out 6
    have qOz : ∀ j, W6.frozen? ⟨(N + 1), j, none⟩ = false := fun j => free_at HO.out j
    have qOl : (N + 1) < W6.heap.size := HO.out.lt
    exact ⟨.agg #[.int .i64 s.term, .int .i64 s.stamp, .int .i64 s.next, .slice b1 m1 k1, .slice b2 m2 k2, .slice b3 m3 k3, .slice b4 m4 k4], by simp [results, Try.results18, go_sem, qO0, qO1, qO2, qO3, qO4, qO5, qO6], _, rfl, (by rw [show R = s from HR9.out]; exact ⟨_, _, _, _, rfl, tn_tv O1.out.v, O2.out.v, O3.out.v, O4.out.v⟩), HB.out⟩
  obtain rfl : R = sweptS ⟨s.term, s.stamp, s.next, s.ts.map (credT s.ls ticks), s.ls, s.ss, s.ds⟩ := HR9.out
  have HSZ9 := Lib.hid (HSZ.out rfl)
  have HF9 : Hid (fewS ⟨s.term, s.stamp, s.next, s.ts.map (credT s.ls ticks), s.ls, s.ss, s.ds⟩) := Lib.hid ⟨(by show (s.ts.map _).length ≤ 200; rw [List.length_map]; exact HFEW.out.1), HFEW.out.2.1, HFEW.out.2.2.1, HFEW.out.2.2.2⟩
  have HOB := Lib.hid (fun t => outL_bd s.ls t HSZ9.out)
  have HOU := Lib.hid (fun W v (h : SV W v s) => outs_any v s W h HFEW.out HSZ9.out)
  have qR0 : W5.cell? ⟨N, 0, none⟩ = some (.int .i64 s.term) := cell_at HR.out 0
  have qR1 : W5.cell? ⟨N, 1, none⟩ = some (.int .i64 s.stamp) := cell_at HR.out 1
  have qR2 : W5.cell? ⟨N, 2, none⟩ = some (.int .i64 s.next) := cell_at HR.out 2
  have qR3 : W5.cell? ⟨N, 3, none⟩ = some (.slice ta tn tc) := cell_at HR.out 3
  have qR4 : W5.cell? ⟨N, 4, none⟩ = some (.slice la ln lc) := cell_at HR.out 4
  have qR5 : W5.cell? ⟨N, 5, none⟩ = some (.slice sa sn sc) := cell_at HR.out 5
  have qR6 : W5.cell? ⟨N, 6, none⟩ = some (.slice da dn dc) := cell_at HR.out 6
  have qRz : ∀ j, W5.frozen? ⟨N, j, none⟩ = false := fun j => free_at HR.out j
  have qRl : N < W5.heap.size := HR.out.lt
  go_wp2_with fail
  go_at_call 32
  go_fit (HOU.out _ _ (HSV.out _ HT.out HL.out HS.out HD.out))
  rintro e W6 ⟨b, rfl, hmt, hB⟩
  clear qR0 qR1 qR2 qR3 qR4 qR5 qR6 qRz qRl
  replace HB := Lib.hid (HB.out.trans (hB.mono HB.out.size))
  replace HT := Lib.hid (HT0.out.below HB.out)
  replace HL := Lib.hid (HL0.out.below HB.out)
  replace HS := Lib.hid (HS0.out.below HB.out)
  replace HD := Lib.hid (HD0.out.below HB.out)
  replace HR := Lib.hid (HR.out.step hB)
  replace HO := Lib.hid (HO.out.step hB)
  replace O1 := Lib.hid (O1.out.step hB)
  replace O2 := Lib.hid (O2.out.step hB)
  replace O3 := Lib.hid (O3.out.step hB)
  replace O4 := Lib.hid (O4.out.step hB)
  clear hB
  have HM := Lib.hid hmt
  clear hmt
  obtain rfl : m1 = tn := Hb1.out.trans Htn.out.symm
  have qO0 : W6.cell? ⟨(N + 1), 0, none⟩ = some (.int .i64 s.term) := cell_at HO.out 0
  have qO1 : W6.cell? ⟨(N + 1), 1, none⟩ = some (.int .i64 s.stamp) := cell_at HO.out 1
  have qO2 : W6.cell? ⟨(N + 1), 2, none⟩ = some (.int .i64 s.next) := cell_at HO.out 2
  have qO3 : W6.cell? ⟨(N + 1), 3, none⟩ = some (.slice b1 m1 k1) := cell_at HO.out 3
  have qO4 : W6.cell? ⟨(N + 1), 4, none⟩ = some (.slice b2 m2 k2) := cell_at HO.out 4
  have qO5 : W6.cell? ⟨(N + 1), 5, none⟩ = some (.slice b3 m3 k3) := cell_at HO.out 5
  have qO6 : W6.cell? ⟨(N + 1), 6, none⟩ = some (.slice b4 m4 k4) := cell_at HO.out 6
  have qOz : ∀ j, W6.frozen? ⟨(N + 1), j, none⟩ = false := fun j => free_at HO.out j
  have qOl : (N + 1) < W6.heap.size := HO.out.lt
  have qR0 : W6.cell? ⟨N, 0, none⟩ = some (.int .i64 s.term) := cell_at HR.out 0
  have qR1 : W6.cell? ⟨N, 1, none⟩ = some (.int .i64 s.stamp) := cell_at HR.out 1
  have qR2 : W6.cell? ⟨N, 2, none⟩ = some (.int .i64 s.next) := cell_at HR.out 2
  have qR3 : W6.cell? ⟨N, 3, none⟩ = some (.slice ta m1 tc) := cell_at HR.out 3
  have qR4 : W6.cell? ⟨N, 4, none⟩ = some (.slice la ln lc) := cell_at HR.out 4
  have qR5 : W6.cell? ⟨N, 5, none⟩ = some (.slice sa sn sc) := cell_at HR.out 5
  have qR6 : W6.cell? ⟨N, 6, none⟩ = some (.slice da dn dc) := cell_at HR.out 6
  have qRz : ∀ j, W6.frozen? ⟨N, j, none⟩ = false := fun j => free_at HR.out j
  have qRl : N < W6.heap.size := HR.out.lt
  go_wp2_with fail
  clear qO0 qO1 qO2 qO3 qO4 qO5 qO6 qOz qOl qR0 qR1 qR2 qR3 qR4 qR5 qR6 qRz qRl
  have HO10 : Hid (TnO _ W6 _ ot (F 0)) := Lib.hid (by rw [HF0.out]; exact O1.out)
  obtain ⟨MM, hMM⟩ : ∃ M, TnO M W6 (.slice b1 m1 k1) ot (F 0) ∧ N + 1 < M ∧ w.heap.size ≤ M := ⟨_, HO10.out, FO1.out, HB0L.out⟩
  obtain ⟨hMM1, hMM2, hMM3⟩ := hMM
  have HMM1 := Lib.hid hMM1
  have HMM2 := Lib.hid hMM2
  have HMM3 := Lib.hid hMM3
  clear hMM1 hMM2 hMM3
  go_loopw [6, 7, 20] (fun _ _ k wr => ∃ i : Nat, i ≤ m1 ∧ k = .int .i64 i ∧ TnO MM wr (.slice b1 m1 k1) ot (F i) ∧ FrB W6.heap.size ot.toList W6 wr) (fun _ _ k _ => m1 - (intOf k).toNat)
  case atStart => exact ⟨0, Nat.zero_le _, rfl, HMM1.out, FrB.refl _ _ _⟩
  case round =>
    obtain ⟨i, hi, rfl, hrow, hfrb⟩ := hrel
    have HFRB := Lib.hid hfrb
    replace HB := Lib.hid (HB.out.trans (hfrb.below HB.out.size (by intro x hx; have := Option.mem_toList.1 hx; have h9 := hrow.2.2 x this; have := HMM3.out; omega)))
    replace HT := Lib.hid (HT0.out.below HB.out)
    replace HL := Lib.hid (HL0.out.below HB.out)
    replace HS := Lib.hid (HS0.out.below HB.out)
    replace HD := Lib.hid (HD0.out.below HB.out)
    replace HR := Lib.hid (HR.out.frBT O1.out hfrb (by decide))
    replace HO := Lib.hid (HO.out.frBT O1.out hfrb (by decide))
    replace HM := Lib.hid (HM.out.frBT O1.out hfrb)
    replace O2 := Lib.hid (O2.out.frBT O1.out hfrb)
    replace O3 := Lib.hid (O3.out.frBT O1.out hfrb)
    replace O4 := Lib.hid (O4.out.frBT O1.out hfrb)
    replace O1 := Lib.hid hrow
    have HBW : Hid (Below wr.heap.size wr wr) := Lib.hid (Below.refl _ _)
    clear hrow hfrb HO10
    by_cases hk : i < m1
    · skip
      have b9 : (i < m1) = True := eq_true hk
      have b8 : decide (i < m1) = true := decide_eq_true hk
      obtain ⟨gr, rfl, rfl⟩ : ∃ gr, ot = some gr ∧ b1 = some ⟨gr, 0, none⟩ := by
        rcases O1.out.1.cases with ⟨_, _, h0, _⟩ | ⟨gr, cap, cur, e1, e2, _⟩
        · exact absurd h0 (by rw [HFL.out i hi]; omega)
        · injection e2 with e3 e4 e5
          exact ⟨gr, e1, e3⟩
      obtain ⟨g, o, x, ea, g1, g2, q0, q1, q2, q3, q4⟩ := O1.out.v.at i hk
      injection ea with ea
      injection ea with ea1 ea2 _
      subst ea1 ea2
      obtain ⟨x', hx'⟩ : ∃ x', s.ts[i]? = some x' := ⟨_, List.getElem?_eq_getElem (by rw [← Htn.out]; exact hk)⟩
      obtain rfl : x' = x := Option.some.inj ((HFA.out i x' hx').symm.trans g2)
      have HFA2 := Lib.hid g2
      have HFS2 := Lib.hid (HFS.out i x' hx')
      have HG2 := Lib.hid (O1.out.2.2 gr rfl)
      have hox := O1.out.2.1 x' (List.mem_of_getElem? g2)
      have HOX := Lib.hid hox
      obtain ⟨ou, hou⟩ : ∃ ou, ou = outL s.ls x'.id := ⟨_, rfl⟩
      have hob := HOB.out x'.id
      rw [← hou, ← Hln.out] at hob
      have HOUE := Lib.hid hou
      obtain ⟨nb, hnb⟩ : ∃ nb, nb = creditS x'.bkt x'.rate x'.burst ou ticks := ⟨_, rfl⟩
      have hnbd := creditS_bd x'.bkt x'.rate x'.burst ou ticks
      rw [← hnb] at hnbd
      have HCR := Lib.hid (fun W => credit_any x'.bkt x'.rate x'.burst ou ticks (by have := HOX.out.2.2.2.1; omega) (by omega) W)
      rw [← hnb] at HCR
      have HCT : Hid (credT s.ls ticks x' = if x'.gone then x' else ⟨x'.id, x'.rate, x'.burst, nb, x'.gone⟩) := Lib.hid (by unfold credT; rw [← hou, ← hnb])
      obtain ⟨yg, hyg⟩ : ∃ yg, yg = x'.gone := ⟨_, rfl⟩
      rw [← hyg] at q4 HCT
      have ww5 : IntKind.i64.wrap ((i : Int) + 1) = (i : Int) + 1 := IntWalk.i64_in _ (by omega)
      obtain ⟨g3, e3, c3, z3⟩ := O1.out.1.cell (i * 5 + 3) (by rw [HFL.out i hi]; omega)
      obtain rfl := Option.some.inj e3
      have HZ3 := Lib.hid z3
      have HYG := Lib.hid hyg
      clear g2 hx' hox hou hnb e3 c3 z3 hyg
      simp only [Nat.zero_add] at q0 q1 q2 q3 q4
      have qO0 : wr.cell? ⟨(N + 1), 0, none⟩ = some (.int .i64 s.term) := cell_at HO.out 0
      have qO1 : wr.cell? ⟨(N + 1), 1, none⟩ = some (.int .i64 s.stamp) := cell_at HO.out 1
      have qO2 : wr.cell? ⟨(N + 1), 2, none⟩ = some (.int .i64 s.next) := cell_at HO.out 2
      have qO3 : wr.cell? ⟨(N + 1), 3, none⟩ = some (.slice (some ⟨gr, 0, none⟩) m1 k1) := cell_at HO.out 3
      have qO4 : wr.cell? ⟨(N + 1), 4, none⟩ = some (.slice b2 m2 k2) := cell_at HO.out 4
      have qO5 : wr.cell? ⟨(N + 1), 5, none⟩ = some (.slice b3 m3 k3) := cell_at HO.out 5
      have qO6 : wr.cell? ⟨(N + 1), 6, none⟩ = some (.slice b4 m4 k4) := cell_at HO.out 6
      have qOz : ∀ j, wr.frozen? ⟨(N + 1), j, none⟩ = false := fun j => free_at HO.out j
      have qOl : (N + 1) < wr.heap.size := HO.out.lt
      have qR0 : wr.cell? ⟨N, 0, none⟩ = some (.int .i64 s.term) := cell_at HR.out 0
      have qR1 : wr.cell? ⟨N, 1, none⟩ = some (.int .i64 s.stamp) := cell_at HR.out 1
      have qR2 : wr.cell? ⟨N, 2, none⟩ = some (.int .i64 s.next) := cell_at HR.out 2
      have qR3 : wr.cell? ⟨N, 3, none⟩ = some (.slice ta m1 tc) := cell_at HR.out 3
      have qR4 : wr.cell? ⟨N, 4, none⟩ = some (.slice la ln lc) := cell_at HR.out 4
      have qR5 : wr.cell? ⟨N, 5, none⟩ = some (.slice sa sn sc) := cell_at HR.out 5
      have qR6 : wr.cell? ⟨N, 6, none⟩ = some (.slice da dn dc) := cell_at HR.out 6
      have qRz : ∀ j, wr.frozen? ⟨N, j, none⟩ = false := fun j => free_at HR.out j
      have qRl : N < wr.heap.size := HR.out.lt
      go_upto_region 9 with fail
      clear qO0 qO1 qO2 qO3 qO4 qO5 qO6 qOz qOl qR0 qR1 qR2 qR3 qR4 qR5 qR6 qRz qRl
      obtain ⟨T9, hT9⟩ : ∃ n0, n0 = wr.heap.size := ⟨_, rfl⟩
      have HXT9HR : Hid (N < T9) := Lib.hid (by rw [hT9]; exact HR.out.lt)
      have HXT9HO : Hid ((N + 1) < T9) := Lib.hid (by rw [hT9]; exact HO.out.lt)
      have HUT9O1 : Hid (∀ g, some gr = some g → g < T9) := Lib.hid (fun g e => by rw [hT9]; first | (subst e; exact O1.out.1.lt) | (obtain rfl := Option.some.inj e; exact O1.out.1.lt))
      have HUT9O2 : Hid (∀ g, ol = some g → g < T9) := Lib.hid (fun g e => by rw [hT9]; first | (subst e; exact O2.out.1.lt) | (obtain rfl := Option.some.inj e; exact O2.out.1.lt))
      have HUT9O3 : Hid (∀ g, os = some g → g < T9) := Lib.hid (fun g e => by rw [hT9]; first | (subst e; exact O3.out.1.lt) | (obtain rfl := Option.some.inj e; exact O3.out.1.lt))
      have HUT9O4 : Hid (∀ g, od = some g → g < T9) := Lib.hid (fun g e => by rw [hT9]; first | (subst e; exact O4.out.1.lt) | (obtain rfl := Option.some.inj e; exact O4.out.1.lt))
      have HLOT9 : Hid (w.heap.size ≤ T9) := Lib.hid (by have := HB.out.size; omega)
      obtain ⟨W7, hA0⟩ : ∃ W0, W0 = wr.alloc (.cells #[.int .i64 x'.id, .int .i64 x'.rate, .int .i64 x'.burst, .int .i64 x'.bkt, .bool yg] 54) := ⟨_, rfl⟩
      have hB : Below wr.heap.size wr W7 := by rw [hA0]; exact (Below.refl _ _).alloc (Nat.le_refl _) _
      have hS0 : W7.heap.size = T9 + 1 := by rw [hA0]; simp [← hT9]
      have HT9 := Lib.hid (show Blk W7 T9 #[.int .i64 x'.id, .int .i64 x'.rate, .int .i64 x'.burst, .int .i64 x'.bkt, .bool yg] 54 by rw [hA0, hT9]; exact blk_new _ _ _)
      replace HB := Lib.hid (HB.out.trans (hB.mono HB.out.size))
      replace HT := Lib.hid (HT0.out.below HB.out)
      replace HL := Lib.hid (HL0.out.below HB.out)
      replace HS := Lib.hid (HS0.out.below HB.out)
      replace HD := Lib.hid (HD0.out.below HB.out)
      replace HR := Lib.hid (HR.out.step hB)
      replace HO := Lib.hid (HO.out.step hB)
      replace O1 := Lib.hid (O1.out.step hB)
      replace O2 := Lib.hid (O2.out.step hB)
      replace O3 := Lib.hid (O3.out.step hB)
      replace O4 := Lib.hid (O4.out.step hB)
      replace HM := Lib.hid (HM.out.step hB)
      replace HBW := Lib.hid (HBW.out.trans (hB.mono HBW.out.size))
      clear hB
      have HST9 := Lib.hid hS0
      rw [← hT9, ← hA0]
      clear hA0 hT9 hS0
      clear q0 q1 q2 q3 q4
      replace HG2 : Hid (_ ≤ gr) := HG2
      cases yg
      rotate_left
      · skip
        replace HFS2 : Hid (F (i + 1) = F i) := Lib.hid (by rw [HFS2.out, HCT.out]; exact set_id _ _ _ HFA2.out)
        have qT90 : W7.cell? ⟨T9, 0, none⟩ = some (.int .i64 x'.id) := cell_at HT9.out 0
        have qT91 : W7.cell? ⟨T9, 1, none⟩ = some (.int .i64 x'.rate) := cell_at HT9.out 1
        have qT92 : W7.cell? ⟨T9, 2, none⟩ = some (.int .i64 x'.burst) := cell_at HT9.out 2
        have qT93 : W7.cell? ⟨T9, 3, none⟩ = some (.int .i64 x'.bkt) := cell_at HT9.out 3
        have qT94 : W7.cell? ⟨T9, 4, none⟩ = some (.bool true) := cell_at HT9.out 4
        have qT9z : ∀ j, W7.frozen? ⟨T9, j, none⟩ = false := fun j => free_at HT9.out j
        have qT9l : T9 < W7.heap.size := HT9.out.lt
        have qO0 : W7.cell? ⟨(N + 1), 0, none⟩ = some (.int .i64 s.term) := cell_at HO.out 0
        have qO1 : W7.cell? ⟨(N + 1), 1, none⟩ = some (.int .i64 s.stamp) := cell_at HO.out 1
        have qO2 : W7.cell? ⟨(N + 1), 2, none⟩ = some (.int .i64 s.next) := cell_at HO.out 2
        have qO3 : W7.cell? ⟨(N + 1), 3, none⟩ = some (.slice (some ⟨gr, 0, none⟩) m1 k1) := cell_at HO.out 3
        have qO4 : W7.cell? ⟨(N + 1), 4, none⟩ = some (.slice b2 m2 k2) := cell_at HO.out 4
        have qO5 : W7.cell? ⟨(N + 1), 5, none⟩ = some (.slice b3 m3 k3) := cell_at HO.out 5
        have qO6 : W7.cell? ⟨(N + 1), 6, none⟩ = some (.slice b4 m4 k4) := cell_at HO.out 6
        have qOz : ∀ j, W7.frozen? ⟨(N + 1), j, none⟩ = false := fun j => free_at HO.out j
        have qOl : (N + 1) < W7.heap.size := HO.out.lt
        go_wp2_with fail
        go_roundw
        case rel => exact ⟨i + 1, by omega, by go_num, by rw [HFS2.out]; exact O1.out, HFRB.out.trans (FrB.of_below HBW.out HFRB.out.size)⟩
        case measure => first | (simp [intOf]; done) | (simp [intOf]; omega)
      replace HFS2 : Hid (F (i + 1) = (F i).set i ⟨x'.id, x'.rate, x'.burst, nb, x'.gone⟩) := Lib.hid (by rw [HFS2.out, HCT.out, ← HYG.out]; rfl)
      have qT90 : W7.cell? ⟨T9, 0, none⟩ = some (.int .i64 x'.id) := cell_at HT9.out 0
      have qT91 : W7.cell? ⟨T9, 1, none⟩ = some (.int .i64 x'.rate) := cell_at HT9.out 1
      have qT92 : W7.cell? ⟨T9, 2, none⟩ = some (.int .i64 x'.burst) := cell_at HT9.out 2
      have qT93 : W7.cell? ⟨T9, 3, none⟩ = some (.int .i64 x'.bkt) := cell_at HT9.out 3
      have qT94 : W7.cell? ⟨T9, 4, none⟩ = some (.bool false) := cell_at HT9.out 4
      have qT9z : ∀ j, W7.frozen? ⟨T9, j, none⟩ = false := fun j => free_at HT9.out j
      have qT9l : T9 < W7.heap.size := HT9.out.lt
      go_wp2_with fail
      refine wp_np ?_
      have HLKA := Lib.hid (fun X (h : MapT X b (fun c : Int => Value.agg #[.int .i64 c]) (outL s.ls)) => HKW.out X b _ x'.id h)
      rw [← HOUE.out] at HLKA
      clear qT90 qT91 qT92 qT93 qT94 qT9z qT9l
      refine wp_region_held_drew (S := fun X => (X.cell? ⟨(N + 1), 0, none⟩ = some (.int .i64 s.term) ∧ X.cell? ⟨(N + 1), 1, none⟩ = some (.int .i64 s.stamp) ∧ X.cell? ⟨(N + 1), 2, none⟩ = some (.int .i64 s.next) ∧ X.cell? ⟨(N + 1), 3, none⟩ = some (.slice (some ⟨gr, 0, none⟩) m1 k1) ∧ X.cell? ⟨(N + 1), 4, none⟩ = some (.slice b2 m2 k2) ∧ X.cell? ⟨(N + 1), 5, none⟩ = some (.slice b3 m3 k3) ∧ X.cell? ⟨(N + 1), 6, none⟩ = some (.slice b4 m4 k4) ∧ (N + 1) < X.heap.size) ∧ (X.cell? ⟨T9, 0, none⟩ = some (.int .i64 x'.id) ∧ X.cell? ⟨T9, 1, none⟩ = some (.int .i64 x'.rate) ∧ X.cell? ⟨T9, 2, none⟩ = some (.int .i64 x'.burst) ∧ X.cell? ⟨T9, 3, none⟩ = some (.int .i64 x'.bkt) ∧ X.cell? ⟨T9, 4, none⟩ = some (.bool false) ∧ T9 < X.heap.size) ∧ (Instr.lookup 63 (.map (some b)) (.agg #[.int .i64 x'.id]) false).run Try.prog X = .ok (.int .i64 ou) X) (by kernel_rfl) ⟨⟨cell_at HO.out 0, cell_at HO.out 1, cell_at HO.out 2, cell_at HO.out 3, cell_at HO.out 4, cell_at HO.out 5, cell_at HO.out 6, HO.out.lt⟩, ⟨cell_at HT9.out 0, cell_at HT9.out 1, cell_at HT9.out 2, cell_at HT9.out 3, cell_at HT9.out 4, HT9.out.lt⟩, (HLKA.out _ (by first | exact HM.out | exact HM.out.congr rfl))⟩ (fun hHeld => ?_)
      ((refine wpAnyH_take (i := 0) (v := ?_) (by (simp only [List.getElem?_toArray, List.getElem?_cons_succ, List.getElem?_cons_zero]); rfl) (by kernel_rfl) (by kernel_rfl) (by kernel_rfl) (by exact fun _ _ _ h => h) (Or.inl ⟨by rfl, ?_⟩) (by assumption) ?_); rotate_left; focus (intro wS hSw; (try dsimp only at hSw); go_simp; first | done | with_reducible rfl); try simp only [Act.put, List.setIfInBounds_toArray, List.set_cons_zero, List.set_cons_succ])
      ((refine wpAnyH_take (i := 1) (v := ?_) (by (simp only [List.getElem?_toArray, List.getElem?_cons_succ, List.getElem?_cons_zero]); rfl) (by kernel_rfl) (by kernel_rfl) (by kernel_rfl) (by exact fun _ _ _ h => h) (Or.inl ⟨by rfl, ?_⟩) (by assumption) ?_); rotate_left; focus (intro wS hSw; (try dsimp only at hSw); go_simp; first | done | with_reducible rfl); try simp only [Act.put, List.setIfInBounds_toArray, List.set_cons_zero, List.set_cons_succ])
      ((refine wpAnyH_take (i := 2) (v := ?_) (by (simp only [List.getElem?_toArray, List.getElem?_cons_succ, List.getElem?_cons_zero]); rfl) (by kernel_rfl) (by kernel_rfl) (by kernel_rfl) (by exact fun _ _ _ h => h) (Or.inl ⟨by rfl, ?_⟩) (by assumption) ?_); rotate_left; focus (intro wS hSw; (try dsimp only at hSw); go_simp; first | done | with_reducible rfl); try simp only [Act.put, List.setIfInBounds_toArray, List.set_cons_zero, List.set_cons_succ])
      ((refine wpAnyH_take (i := 3) (v := ?_) (by (simp only [List.getElem?_toArray, List.getElem?_cons_succ, List.getElem?_cons_zero]); rfl) (by kernel_rfl) (by kernel_rfl) (by kernel_rfl) (by exact fun _ _ _ h => h) (Or.inl ⟨by rfl, ?_⟩) (by assumption) ?_); rotate_left; focus (intro wS hSw; (try dsimp only at hSw); go_simp; first | done | with_reducible rfl); try simp only [Act.put, List.setIfInBounds_toArray, List.set_cons_zero, List.set_cons_succ])
      ((refine wpAnyH_take (i := 4) (v := ?_) (by (simp only [List.getElem?_toArray, List.getElem?_cons_succ, List.getElem?_cons_zero]); rfl) (by kernel_rfl) (by kernel_rfl) (by kernel_rfl) (by exact fun _ _ _ h => h) (Or.inl ⟨by rfl, ?_⟩) (by assumption) ?_); rotate_left; focus (intro wS hSw; (try dsimp only at hSw); go_simp; first | done | with_reducible rfl); try simp only [Act.put, List.setIfInBounds_toArray, List.set_cons_zero, List.set_cons_succ])
      ((refine wpAnyH_take (i := 5) (v := ?_) (by (simp only [List.getElem?_toArray, List.getElem?_cons_succ, List.getElem?_cons_zero]); rfl) (by kernel_rfl) (by kernel_rfl) (by kernel_rfl) (by exact fun _ _ _ h => h) (Or.inl ⟨by rfl, ?_⟩) (by assumption) ?_); rotate_left; focus (intro wS hSw; (try dsimp only at hSw); go_simp; first | done | with_reducible rfl); try simp only [Act.put, List.setIfInBounds_toArray, List.set_cons_zero, List.set_cons_succ])
      ((refine wpAnyH_take (i := 6) (v := ?_) (by (simp only [List.getElem?_toArray, List.getElem?_cons_succ, List.getElem?_cons_zero]); rfl) (by kernel_rfl) (by kernel_rfl) (by kernel_rfl) (by exact fun _ _ _ h => h) (Or.inl ⟨by rfl, ?_⟩) (by assumption) ?_); rotate_left; focus (intro wS hSw; (try dsimp only at hSw); go_simp; first | done | with_reducible rfl); try simp only [Act.put, List.setIfInBounds_toArray, List.set_cons_zero, List.set_cons_succ])
      ((refine wpAnyH_take (i := 7) (v := ?_) (by (simp only [List.getElem?_toArray, List.getElem?_cons_succ, List.getElem?_cons_zero]); rfl) (by kernel_rfl) (by kernel_rfl) (by kernel_rfl) (by exact fun _ _ _ h => h) (Or.inl ⟨by rfl, ?_⟩) (by assumption) ?_); rotate_left; focus (intro wS hSw; (try dsimp only at hSw); go_simp; first | done | with_reducible rfl); try simp only [Act.put, List.setIfInBounds_toArray, List.set_cons_zero, List.set_cons_succ])
      ((refine wpAnyH_take (i := 8) (v := ?_) (by (simp only [List.getElem?_toArray, List.getElem?_cons_succ, List.getElem?_cons_zero]); rfl) (by kernel_rfl) (by kernel_rfl) (by kernel_rfl) (by exact fun _ _ _ h => h) (Or.inl ⟨by rfl, ?_⟩) (by assumption) ?_); rotate_left; focus (intro wS hSw; (try dsimp only at hSw); go_simp; first | done | with_reducible rfl); try simp only [Act.put, List.setIfInBounds_toArray, List.set_cons_zero, List.set_cons_succ])
      ((refine wpAnyH_take (i := 9) (v := ?_) (by (simp only [List.getElem?_toArray, List.getElem?_cons_succ, List.getElem?_cons_zero]); rfl) (by kernel_rfl) (by kernel_rfl) (by kernel_rfl) (by exact fun _ _ _ h => h) (Or.inl ⟨by rfl, ?_⟩) (by assumption) ?_); rotate_left; focus (intro wS hSw; (try dsimp only at hSw); go_simp; first | done | with_reducible rfl); try simp only [Act.put, List.setIfInBounds_toArray, List.set_cons_zero, List.set_cons_succ])
      ((refine wpAnyH_take (i := 10) (v := ?_) (by (simp only [List.getElem?_toArray, List.getElem?_cons_succ, List.getElem?_cons_zero]); rfl) (by kernel_rfl) (by kernel_rfl) (by kernel_rfl) (by exact fun _ _ _ h => h) (Or.inl ⟨by rfl, ?_⟩) (by assumption) ?_); rotate_left; focus (intro wS hSw; (try dsimp only at hSw); go_simp; first | done | with_reducible rfl); try simp only [Act.put, List.setIfInBounds_toArray, List.set_cons_zero, List.set_cons_succ])
      ((refine wpAnyH_take (i := 11) (v := ?_) (by (simp only [List.getElem?_toArray, List.getElem?_cons_succ, List.getElem?_cons_zero]); rfl) (by kernel_rfl) (by kernel_rfl) (by kernel_rfl) (by exact fun _ _ _ h => h) (Or.inl ⟨by rfl, ?_⟩) (by assumption) ?_); rotate_left; focus (intro wS hSw; (try dsimp only at hSw); go_simp; first | done | with_reducible rfl); try simp only [Act.put, List.setIfInBounds_toArray, List.set_cons_zero, List.set_cons_succ])
      ((refine wpAnyH_take (i := 12) (v := ?_) (by (simp only [List.getElem?_toArray, List.getElem?_cons_succ, List.getElem?_cons_zero]); rfl) (by kernel_rfl) (by kernel_rfl) (by kernel_rfl) (by exact fun _ _ _ h => h) (Or.inl ⟨by rfl, ?_⟩) (by assumption) ?_); rotate_left; focus (intro wS hSw; (try dsimp only at hSw); go_simp; first | done | with_reducible rfl); try simp only [Act.put, List.setIfInBounds_toArray, List.set_cons_zero, List.set_cons_succ])
      ((refine wpAnyH_take (i := 13) (v := ?_) (by (simp only [List.getElem?_toArray, List.getElem?_cons_succ, List.getElem?_cons_zero]); rfl) (by kernel_rfl) (by kernel_rfl) (by kernel_rfl) (by exact fun _ _ _ h => h) (Or.inl ⟨by rfl, ?_⟩) (by assumption) ?_); rotate_left; focus (intro wS hSw; (try dsimp only at hSw); go_simp; first | done | with_reducible rfl); try simp only [Act.put, List.setIfInBounds_toArray, List.set_cons_zero, List.set_cons_succ])
      ((refine wpAnyH_take (i := 14) (v := ?_) (by (simp only [List.getElem?_toArray, List.getElem?_cons_succ, List.getElem?_cons_zero]); rfl) (by kernel_rfl) (by kernel_rfl) (by kernel_rfl) (by exact fun _ _ _ h => h) (Or.inl ⟨by rfl, ?_⟩) (by assumption) ?_); rotate_left; focus (intro wS hSw; (try dsimp only at hSw); go_simp; first | done | with_reducible rfl); try simp only [Act.put, List.setIfInBounds_toArray, List.set_cons_zero, List.set_cons_succ])
      refine wpAnyH_ready (rs := [15]) (by kernel_rfl) (by simp) ?_
      refine AllReadyH.cons (by (simp only [List.getElem?_toArray, List.getElem?_cons_succ, List.getElem?_cons_zero]); rfl) (fun K hK => ?_) AllReadyH.nil
      go_simp
      go_fit (HCR.out _)
      rintro e W8 ⟨rfl, hB⟩
      replace hB := below_undrew hB
      replace HB := Lib.hid (HB.out.trans (hB.mono HB.out.size))
      replace HT := Lib.hid (HT0.out.below HB.out)
      replace HL := Lib.hid (HL0.out.below HB.out)
      replace HS := Lib.hid (HS0.out.below HB.out)
      replace HD := Lib.hid (HD0.out.below HB.out)
      replace HR := Lib.hid (HR.out.step hB)
      replace HO := Lib.hid (HO.out.step hB)
      replace O1 := Lib.hid (O1.out.step hB)
      replace O2 := Lib.hid (O2.out.step hB)
      replace O3 := Lib.hid (O3.out.step hB)
      replace O4 := Lib.hid (O4.out.step hB)
      replace HM := Lib.hid (HM.out.step hB)
      replace HBW := Lib.hid (HBW.out.trans (hB.mono HBW.out.size))
      replace HT9 := Lib.hid (HT9.out.step hB)
      go_wp2_with fail
      refine hK.out _ _ ⟨⟨cell_at HO.out 0, cell_at HO.out 1, cell_at HO.out 2, cell_at HO.out 3, cell_at HO.out 4, cell_at HO.out 5, cell_at HO.out 6, HO.out.lt⟩, ⟨cell_at HT9.out 0, cell_at HT9.out 1, cell_at HT9.out 2, cell_at HT9.out 3, cell_at HT9.out 4, HT9.out.lt⟩, (HLKA.out _ (by first | exact HM.out | exact HM.out.congr rfl))⟩ (fun hHeld => ?_)
      clear hK K hB
      try simp only [Act.put, List.setIfInBounds_toArray, List.set_cons_zero, List.set_cons_succ]
      ((refine wpAnyH_take (i := 16) (v := ?_) (by (simp only [List.getElem?_toArray, List.getElem?_cons_succ, List.getElem?_cons_zero]); rfl) (by kernel_rfl) (by kernel_rfl) (by kernel_rfl) (by exact fun _ _ _ h => h) (Or.inl ⟨by rfl, ?_⟩) (by assumption) ?_); rotate_left; focus (intro wS hSw; (try dsimp only at hSw); go_simp; first | done | with_reducible rfl); try simp only [Act.put, List.setIfInBounds_toArray, List.set_cons_zero, List.set_cons_succ])
      ((refine wpAnyH_take (i := 17) (v := ?_) (by (simp only [List.getElem?_toArray, List.getElem?_cons_succ, List.getElem?_cons_zero]); rfl) (by kernel_rfl) (by kernel_rfl) (by kernel_rfl) (by exact fun _ _ _ h => h) (Or.inl ⟨by rfl, ?_⟩) (by assumption) ?_); rotate_left; focus (intro wS hSw; (try dsimp only at hSw); go_simp; first | done | with_reducible rfl); try simp only [Act.put, List.setIfInBounds_toArray, List.set_cons_zero, List.set_cons_succ])
      have c6 : W8.cell? ⟨gr, i * 5 + 3, none⟩ = some (.int .i64 x'.bkt) := by
        obtain ⟨g, o, x, ea, g1, g2, q0, q1, q2, q3, q4⟩ := O1.out.v.at i hk
        injection ea with ea
        injection ea with ea1 ea2 _
        subst ea1 ea2
        obtain rfl : x' = x := Option.some.inj (HFA2.out.symm.trans g2)
        simpa using q3
      have z6 : W8.frozen? ⟨gr, i * 5 + 3, none⟩ = false := by
        obtain ⟨g3, e3, c3, z3⟩ := O1.out.1.cell (i * 5 + 3) (by rw [HFL.out i hi]; omega)
        obtain rfl := Option.some.inj e3
        exact z3
      have l6 : gr < W8.heap.size := O1.out.1.lt
      refine wpAnyH_ready (rs := [18]) (by kernel_rfl) (by simp) ?_
      refine AllReadyH.cons (by (simp only [List.getElem?_toArray, List.getElem?_cons_succ, List.getElem?_cons_zero]); rfl) (fun K hK => ?_) AllReadyH.nil
      rw [if_pos (by rfl)]
      go_simp
      obtain ⟨W9, hWS⟩ : ∃ WS, WS = W8.setCell ⟨gr, i * 5 + 3, none⟩ (.int .i64 nb) := ⟨_, rfl⟩
      rw [← hWS]
      have hfS : Fr [gr] W8 W9 := by rw [hWS]; exact (Fr.refl _ _).setCell _ (.inl (by simp)) _
      have hO1 := O1.out.setBkt HFA2.out nb (by omega)
      rw [← hWS] at hO1
      have hfB : FrB W8.heap.size (some gr).toList W8 W9 := FrB.of_fr hfS (Nat.le_refl _)
      replace HM := Lib.hid (HM.out.frBT O1.out hfB)
      replace HO := Lib.hid (HO.out.frBT O1.out hfB (by decide))
      have hne9 : T9 ≠ gr := by have h1 := HUT9O1.out gr rfl; omega
      replace HT9 := Lib.hid (show Blk _ T9 _ _ from (hfS.block T9 HT9.out.lt (by simpa using hne9)).trans HT9.out)
      replace O1 := Lib.hid hO1
      refine hK.out _ _ ⟨⟨cell_at HO.out 0, cell_at HO.out 1, cell_at HO.out 2, cell_at HO.out 3, cell_at HO.out 4, cell_at HO.out 5, cell_at HO.out 6, HO.out.lt⟩, ⟨cell_at HT9.out 0, cell_at HT9.out 1, cell_at HT9.out 2, cell_at HT9.out 3, cell_at HT9.out 4, HT9.out.lt⟩, (HLKA.out _ (by first | exact HM.out | exact HM.out.congr rfl))⟩ (fun hHeld => ?_)
      have HFB := Lib.hid hfB
      clear hK K hO1 hfS hfB hWS c6 z6 l6
      refine wpAnyH_done (by kernel_rfl) ?_ _
      simp only [NoPan]
      try simp only [Act.put, List.setIfInBounds_toArray, List.set_cons_zero, List.set_cons_succ]
      go_wp2_with fail
      go_roundw
      case rel => exact ⟨i + 1, by omega, by go_num, by rw [HFS2.out]; exact O1.out, HFRB.out.trans ((FrB.of_below HBW.out HFRB.out.size).trans (HFB.out.mono0 (Nat.le_trans HFRB.out.size HBW.out.size)))⟩
      case measure => first | (simp [intOf]; done) | (simp [intOf]; omega)
    · skip
      have b9 : (i < m1) = False := eq_false hk
      have b8 : decide (i < m1) = false := decide_eq_false hk
      obtain rfl : m1 = i := by omega
      rw [HFE.out] at O1
      replace FO1 := HMM2
      have qO0 : wr.cell? ⟨(N + 1), 0, none⟩ = some (.int .i64 s.term) := cell_at HO.out 0
      have qO1 : wr.cell? ⟨(N + 1), 1, none⟩ = some (.int .i64 s.stamp) := cell_at HO.out 1
      have qO2 : wr.cell? ⟨(N + 1), 2, none⟩ = some (.int .i64 s.next) := cell_at HO.out 2
      have qO3 : wr.cell? ⟨(N + 1), 3, none⟩ = some (.slice b1 m1 k1) := cell_at HO.out 3
      have qO4 : wr.cell? ⟨(N + 1), 4, none⟩ = some (.slice b2 m2 k2) := cell_at HO.out 4
      have qO5 : wr.cell? ⟨(N + 1), 5, none⟩ = some (.slice b3 m3 k3) := cell_at HO.out 5
      have qO6 : wr.cell? ⟨(N + 1), 6, none⟩ = some (.slice b4 m4 k4) := cell_at HO.out 6
      have qOz : ∀ j, wr.frozen? ⟨(N + 1), j, none⟩ = false := fun j => free_at HO.out j
      have qOl : (N + 1) < wr.heap.size := HO.out.lt
      go_wp2_with fail
      clear qO0 qO1 qO2 qO3 qO4 qO5 qO6 qOz qOl
      obtain ⟨LS, hLS⟩ : ∃ L : List Value, L = [.int .i64 s.term, .int .i64 s.stamp, .int .i64 s.next, .slice b1 m1 k1, .slice b2 m2 k2, .slice b3 m3 k3, .slice b4 m4 k4] := ⟨_, rfl⟩
      obtain ⟨W7, hWS⟩ : ∃ WS, WS = wr.setCells (N + 1) 0 LS := ⟨_, rfl⟩
      have hch := hWS
      rw [hLS] at hch
      simp only [World.setCells, Nat.zero_add, Nat.reduceAdd] at hch
      rw [← hch]
      clear hch
      have hkS := stC_blk HO.out LS (by rw [hLS]; rfl)
      have hfS := stC_fr (N + 1) LS 0 wr
      rw [← hWS] at hkS hfS
      rw [hLS] at hkS
      replace HB := Lib.hid (HB.out.trans (hfS.below HB.out.size (by have := HLON.out; simp; try omega)))
      replace HT := Lib.hid (HT0.out.below HB.out)
      replace HL := Lib.hid (HL0.out.below HB.out)
      replace HS := Lib.hid (HS0.out.below HB.out)
      replace HD := Lib.hid (HD0.out.below HB.out)
      replace HR := Lib.hid (show Blk W7 N #[.int .i64 s.term, .int .i64 s.stamp, .int .i64 s.next, .slice ta m1 tc, .slice la ln lc, .slice sa sn sc, .slice da dn dc] 27 from (hfS.block _ HR.out.lt (by simp; try omega)).trans HR.out)
      replace O1 := Lib.hid (O1.out.fr hfS (by have := FO1.out; omega))
      replace O2 := Lib.hid (O2.out.fr hfS (by have := FO2.out; omega))
      replace O3 := Lib.hid (O3.out.fr hfS (by have := FO3.out; omega))
      replace O4 := Lib.hid (O4.out.fr hfS (by have := FO4.out; omega))
      replace HO := Lib.hid (show Blk W7 (N + 1) #[.int .i64 s.term, .int .i64 s.stamp, .int .i64 s.next, .slice b1 m1 k1, .slice b2 m2 k2, .slice b3 m3 k3, .slice b4 m4 k4] 27 from hkS)
      clear hWS hLS hkS hfS
      refine leaves_cons (f := 37) (args := #[.pointer (some ⟨(N + 1), 0, none⟩)]) (by simp) (by simp [go_sem]) ?_
      refine (credit1_d .returning _ _ _ _ (⟨s.term, s.stamp, s.next, s.ts.map (credT s.ls ticks), s.ls, s.ss, s.ds⟩) (N + 1) _ HO.out (tn_tv O1.out.v) O2.out.v O3.out.v O4.out.v HF9.out HSZ9.out).mono ?_
      rintro e u9 W8 ⟨rfl, vt9, rfl, hO9, hQ9, hF9⟩
      have z0 : W8.cell? ⟨(N + 1), 0, none⟩ = some (.int .i64 s.term) := cell_at hO9 0
      have z1 : W8.cell? ⟨(N + 1), 1, none⟩ = some (.int .i64 s.stamp) := cell_at hO9 1
      have z2 : W8.cell? ⟨(N + 1), 2, none⟩ = some (.int .i64 s.next) := cell_at hO9 2
      have z3 : W8.cell? ⟨(N + 1), 3, none⟩ = some (vt9) := cell_at hO9 3
      have z4 : W8.cell? ⟨(N + 1), 4, none⟩ = some (.slice b2 m2 k2) := cell_at hO9 4
      have z5 : W8.cell? ⟨(N + 1), 5, none⟩ = some (.slice b3 m3 k3) := cell_at hO9 5
      have z6 : W8.cell? ⟨(N + 1), 6, none⟩ = some (.slice b4 m4 k4) := cell_at hO9 6
      exact ⟨.agg #[.int .i64 s.term, .int .i64 s.stamp, .int .i64 s.next, vt9, .slice b2 m2 k2, .slice b3 m3 k3, .slice b4 m4 k4], by simp [results, Try.results18, go_sem, z0, z1, z2, z3, z4, z5, z6], _, rfl, ⟨_, _, _, _, rfl, hQ9, (O2.out.fr hF9 (by have := FO2.out; omega)).v, (O3.out.fr hF9 (by have := FO3.out; omega)).v, (O4.out.fr hF9 (by have := FO4.out; omega)).v⟩, HB.out.trans (hF9.below HB.out.size (by have := HLON.out; simp; omega))⟩
end Go.Proofs.Ytfgnjpdlchimpaa
namespace Go.Proofs.Ytfgnjpdlchimpaa
open Go.RowKit
set_option linter.unusedSimpArgs false
set_option linter.unusedVariables false

theorem grA_sh2 (s : StE) (sh ep nu te size : Int) (h : chkS s = true) : ∃ r b l z, grA s sh ep nu te size = ansG (grE s sh ep nu te size) r b l z := by
  unfold grA
  rw [h, if_pos rfl]
  split
  · rename_i h9; rw [h9]; exact ⟨_, _, _, _, rfl⟩
  · exact ⟨_, _, _, _, rfl⟩
theorem grS_rest (s : StE) (sh ep nu te size : Int) : (grS s sh ep nu te size).ss = s.ss ∧ (grS s sh ep nu te size).ds = s.ds := by
  unfold grS
  split
  · split <;> exact ⟨rfl, rfl⟩
  · exact ⟨rfl, rfl⟩
theorem rpS_rest (s : StE) (sh ep le sp : Int) (cl : Bool) : (rpS s sh ep le sp cl).ss = s.ss ∧ (rpS s sh ep le sp cl).ds = s.ds := by
  unfold rpS
  split
  · split
    · unfold rpL sweptS
      simp only
      split <;> exact ⟨rfl, rfl⟩
    · exact ⟨rfl, rfl⟩
  · exact ⟨rfl, rfl⟩
theorem exS_rest (s : StE) (l : List Int) : (exS s l).ss = s.ss ∧ (exS s l).ds = s.ds := by
  unfold exS
  split <;> exact ⟨rfl, rfl⟩
theorem crS_rest (s : StE) (t : Int) : (credS s t).ss = s.ss ∧ (credS s t).ds = s.ds := by
  unfold credS
  split <;> exact ⟨rfl, rfl⟩
theorem VS.few {s t : StE} (h : VS t) (hr : t.ss = s.ss ∧ t.ds = s.ds) (hf : fewS s) : fewS t := ⟨by have := chk_len h.ck; omega, by have := h.len; omega, by rw [hr.1]; exact hf.2.2.1, by rw [hr.2]; exact hf.2.2.2⟩
theorem VS.sum_bd {s : StE} (h : VS s) (i : Int) : 0 ≤ outL s.ls i ∧ outL s.ls i ≤ 64000000 ∧ 0 ≤ ((fndC i s.ts).getD z0).bkt ∧ ((fndC i s.ts).getD z0).bkt ≤ 1000000000 ∧ 0 ≤ ((fndC i s.ts).getD z0).rate ∧ ((fndC i s.ts).getD z0).rate ≤ 1000000 := by
  have h1 := outL_bd s.ls i h.size
  have h2 := h.len
  have h3 := fnd_bd i h.ck
  rw [fndC_eq _ h.ck]
  refine ⟨h1.1, by omega, h3.1, h3.2, ?_⟩
  cases hf : fnd i s.ts with
  | none => exact ⟨by decide, by decide⟩
  | some y =>
    have hm := chk_may h.ck y (fnd_mem hf).1
    unfold mayT mayB at hm
    simp only [Bool.and_eq_true, decide_eq_true_eq] at hm
    exact ⟨hm.1.1.2.1, hm.1.1.2.2.1⟩
set_option maxRecDepth 100000 in
set_option maxHeartbeats 8000000 in
theorem sum_any (v : Value) (s : StE) (t : Int) (w : World) (h : SV w v s) (hf : fewS s) (hv : VS s) :
    Calls Try.prog 27 #[v, .int .i64 t] w fun e w' => e = .returned (.int .i64 (sumS s t)) ∧ Below w.heap.size w w' := by
  have HFEW := Lib.hid hf
  obtain ⟨f1, f2, f3, f4⟩ := hf
  obtain ⟨vt, vl, vs, vd, rfl, ht, hl, hs, hd⟩ := h
  obtain ⟨ta, tn, tc, rfl, Htn, tn1, tn2⟩ := ht.sh
  obtain ⟨la, ln, lc, rfl, Hln, ln1, ln2⟩ := hl.sh
  obtain ⟨sa, sn, sc, rfl, Hsn, sn1, sn2⟩ := hs.sh
  obtain ⟨da, dn, dc, rfl, Hdn, dn1, dn2⟩ := hd.sh
  have HT0 := Lib.hid ht
  have HL0 := Lib.hid hl
  have HS0 := Lib.hid hs
  have HD0 := Lib.hid hd
  have HT := Lib.hid ht
  have HL := Lib.hid hl
  have HS := Lib.hid hs
  have HD := Lib.hid hd
  clear ht hl hs hd
  rw [← Hln.out] at f2
  rw [← Htn.out] at f1
  have HSV : Hid (∀ W, TV W (.slice ta tn tc) s.ts → LeV W (.slice la ln lc) s.ls → SeV W (.slice sa sn sc) s.ss → DkV W (.slice da dn dc) s.ds → SV W (.agg #[.int .i64 s.term, .int .i64 s.stamp, .int .i64 s.next, .slice ta tn tc, .slice la ln lc, .slice sa sn sc, .slice da dn dc]) s) := Lib.hid (fun W h1 h2 h3 h4 => ⟨_, _, _, _, rfl, h1, h2, h3, h4⟩)
  have HOU := Lib.hid (fun W v (h : SV W v s) => rout_any v s t W h HFEW.out hv.size)
  have HFD := Lib.hid (fun W (h : TV W (.slice ta tn tc) s.ts) => rfind_any _ s.ts t W h)
  have hbd := hv.sum_bd t
  obtain ⟨y, hy⟩ : ∃ y, y = (fndC t s.ts).getD z0 := ⟨_, rfl⟩
  obtain ⟨ok, hok⟩ : ∃ b, b = (fndC t s.ts).isSome := ⟨_, rfl⟩
  unfold TnE.agg at HFD
  rw [← hy, ← hok] at HFD
  rw [← hy] at hbd
  obtain ⟨ou, hou⟩ : ∃ n, n = outL s.ls t := ⟨_, rfl⟩
  rw [← hou] at HOU hbd
  obtain ⟨R, hR⟩ : ∃ n, n = sumS s t := ⟨_, rfl⟩
  rw [← hR]
  have hR2 : R = y.bkt + 1000 * ou := by rw [hR, hy, hou]; rfl
  obtain ⟨m1, hm1⟩ : ∃ m1, m1 = 1000 * ou := ⟨_, rfl⟩
  have ww1 : IntKind.i64.wrap (1000 * ou) = m1 := (IntWalk.i64_in _ (by omega)).trans hm1.symm
  have ww2 : IntKind.i64.wrap (y.bkt + m1) = R := (IntWalk.i64_in _ (by omega)).trans (by omega)
  clear hy hok hou hR hR2 hm1 hv hbd
  have HB : Hid (Below w.heap.size w w) := Lib.hid (Below.refl _ _)
  go_enter Try.func27, Try.ntmps27
  go_upto_region 1 with fail
  obtain ⟨N, hN⟩ : ∃ n0, n0 = w.heap.size := ⟨_, rfl⟩
  have HLON : Hid (w.heap.size ≤ N) := Lib.hid (by have := HB.out.size; omega)
  obtain ⟨W1, hA0⟩ : ∃ W0, W0 = w.alloc (.cells #[.int .i64 s.term, .int .i64 s.stamp, .int .i64 s.next, .slice ta tn tc, .slice la ln lc, .slice sa sn sc, .slice da dn dc] 27) := ⟨_, rfl⟩
  have hB : Below w.heap.size w W1 := by rw [hA0]; exact (Below.refl _ _).alloc (Nat.le_refl _) _
  have hS0 : W1.heap.size = N + 1 := by rw [hA0]; simp [← hN]
  have HR := Lib.hid (show Blk W1 N #[.int .i64 s.term, .int .i64 s.stamp, .int .i64 s.next, .slice ta tn tc, .slice la ln lc, .slice sa sn sc, .slice da dn dc] 27 by rw [hA0, hN]; exact blk_new _ _ _)
  replace HB := Lib.hid (HB.out.trans (hB.mono HB.out.size))
  replace HT := Lib.hid (HT0.out.below HB.out)
  replace HL := Lib.hid (HL0.out.below HB.out)
  replace HS := Lib.hid (HS0.out.below HB.out)
  replace HD := Lib.hid (HD0.out.below HB.out)
  clear hB
  have HSN := Lib.hid hS0
  rw [← hN, ← hA0]
  clear hA0 hN hS0
  have qR0 : W1.cell? ⟨N, 0, none⟩ = some (.int .i64 s.term) := cell_at HR.out 0
  have qR1 : W1.cell? ⟨N, 1, none⟩ = some (.int .i64 s.stamp) := cell_at HR.out 1
  have qR2 : W1.cell? ⟨N, 2, none⟩ = some (.int .i64 s.next) := cell_at HR.out 2
  have qR3 : W1.cell? ⟨N, 3, none⟩ = some (.slice ta tn tc) := cell_at HR.out 3
  have qR4 : W1.cell? ⟨N, 4, none⟩ = some (.slice la ln lc) := cell_at HR.out 4
  have qR5 : W1.cell? ⟨N, 5, none⟩ = some (.slice sa sn sc) := cell_at HR.out 5
  have qR6 : W1.cell? ⟨N, 6, none⟩ = some (.slice da dn dc) := cell_at HR.out 6
  have qRz : ∀ j, W1.frozen? ⟨N, j, none⟩ = false := fun j => free_at HR.out j
  have qRl : N < W1.heap.size := HR.out.lt
  go_wp2_with fail
  go_at_call 26
  go_fit (HFD.out _ HT.out)
  rintro e W2 ⟨rfl, hB⟩
  clear qR0 qR1 qR2 qR3 qR4 qR5 qR6 qRz qRl
  replace HB := Lib.hid (HB.out.trans (hB.mono HB.out.size))
  replace HT := Lib.hid (HT0.out.below HB.out)
  replace HL := Lib.hid (HL0.out.below HB.out)
  replace HS := Lib.hid (HS0.out.below HB.out)
  replace HD := Lib.hid (HD0.out.below HB.out)
  replace HR := Lib.hid (HR.out.step hB)
  clear hB
  go_upto_region 2 with fail
  obtain ⟨T9, hT9⟩ : ∃ n0, n0 = W2.heap.size := ⟨_, rfl⟩
  have HXT9HR : Hid (N < T9) := Lib.hid (by rw [hT9]; exact HR.out.lt)
  have HLOT9 : Hid (w.heap.size ≤ T9) := Lib.hid (by have := HB.out.size; omega)
  obtain ⟨W3, hA0⟩ : ∃ W0, W0 = W2.alloc (.cells #[.int .i64 y.id, .int .i64 y.rate, .int .i64 y.burst, .int .i64 y.bkt, .bool y.gone] 54) := ⟨_, rfl⟩
  have hB : Below W2.heap.size W2 W3 := by rw [hA0]; exact (Below.refl _ _).alloc (Nat.le_refl _) _
  have hS0 : W3.heap.size = T9 + 1 := by rw [hA0]; simp [← hT9]
  have HT9 := Lib.hid (show Blk W3 T9 #[.int .i64 y.id, .int .i64 y.rate, .int .i64 y.burst, .int .i64 y.bkt, .bool y.gone] 54 by rw [hA0, hT9]; exact blk_new _ _ _)
  replace HB := Lib.hid (HB.out.trans (hB.mono HB.out.size))
  replace HT := Lib.hid (HT0.out.below HB.out)
  replace HL := Lib.hid (HL0.out.below HB.out)
  replace HS := Lib.hid (HS0.out.below HB.out)
  replace HD := Lib.hid (HD0.out.below HB.out)
  replace HR := Lib.hid (HR.out.step hB)
  clear hB
  have HST9 := Lib.hid hS0
  rw [← hT9, ← hA0]
  clear hA0 hT9 hS0
  have qR0 : W3.cell? ⟨N, 0, none⟩ = some (.int .i64 s.term) := cell_at HR.out 0
  have qR1 : W3.cell? ⟨N, 1, none⟩ = some (.int .i64 s.stamp) := cell_at HR.out 1
  have qR2 : W3.cell? ⟨N, 2, none⟩ = some (.int .i64 s.next) := cell_at HR.out 2
  have qR3 : W3.cell? ⟨N, 3, none⟩ = some (.slice ta tn tc) := cell_at HR.out 3
  have qR4 : W3.cell? ⟨N, 4, none⟩ = some (.slice la ln lc) := cell_at HR.out 4
  have qR5 : W3.cell? ⟨N, 5, none⟩ = some (.slice sa sn sc) := cell_at HR.out 5
  have qR6 : W3.cell? ⟨N, 6, none⟩ = some (.slice da dn dc) := cell_at HR.out 6
  have qRz : ∀ j, W3.frozen? ⟨N, j, none⟩ = false := fun j => free_at HR.out j
  have qRl : N < W3.heap.size := HR.out.lt
  have qT90 : W3.cell? ⟨T9, 0, none⟩ = some (.int .i64 y.id) := cell_at HT9.out 0
  have qT91 : W3.cell? ⟨T9, 1, none⟩ = some (.int .i64 y.rate) := cell_at HT9.out 1
  have qT92 : W3.cell? ⟨T9, 2, none⟩ = some (.int .i64 y.burst) := cell_at HT9.out 2
  have qT93 : W3.cell? ⟨T9, 3, none⟩ = some (.int .i64 y.bkt) := cell_at HT9.out 3
  have qT94 : W3.cell? ⟨T9, 4, none⟩ = some (.bool y.gone) := cell_at HT9.out 4
  have qT9z : ∀ j, W3.frozen? ⟨T9, j, none⟩ = false := fun j => free_at HT9.out j
  have qT9l : T9 < W3.heap.size := HT9.out.lt
  go_wp2_with fail
  clear qR0 qR1 qR2 qR3 qR4 qR5 qR6 qRz qRl qT90 qT91 qT92 qT93 qT94 qT9z qT9l
  refine wp_region_held_drew (S := fun X => (X.cell? ⟨N, 0, none⟩ = some (.int .i64 s.term) ∧ X.cell? ⟨N, 1, none⟩ = some (.int .i64 s.stamp) ∧ X.cell? ⟨N, 2, none⟩ = some (.int .i64 s.next) ∧ X.cell? ⟨N, 3, none⟩ = some (.slice ta tn tc) ∧ X.cell? ⟨N, 4, none⟩ = some (.slice la ln lc) ∧ X.cell? ⟨N, 5, none⟩ = some (.slice sa sn sc) ∧ X.cell? ⟨N, 6, none⟩ = some (.slice da dn dc) ∧ N < X.heap.size) ∧ (X.cell? ⟨T9, 0, none⟩ = some (.int .i64 y.id) ∧ X.cell? ⟨T9, 1, none⟩ = some (.int .i64 y.rate) ∧ X.cell? ⟨T9, 2, none⟩ = some (.int .i64 y.burst) ∧ X.cell? ⟨T9, 3, none⟩ = some (.int .i64 y.bkt) ∧ X.cell? ⟨T9, 4, none⟩ = some (.bool y.gone) ∧ T9 < X.heap.size)) (by kernel_rfl) ⟨⟨cell_at HR.out 0, cell_at HR.out 1, cell_at HR.out 2, cell_at HR.out 3, cell_at HR.out 4, cell_at HR.out 5, cell_at HR.out 6, HR.out.lt⟩, ⟨cell_at HT9.out 0, cell_at HT9.out 1, cell_at HT9.out 2, cell_at HT9.out 3, cell_at HT9.out 4, HT9.out.lt⟩⟩ (fun hHeld => ?_)
  ((refine wpAnyH_take (i := 0) (v := ?_) (by (simp only [List.getElem?_toArray, List.getElem?_cons_succ, List.getElem?_cons_zero]); rfl) (by kernel_rfl) (by kernel_rfl) (by kernel_rfl) (by exact fun _ _ _ h => h) (Or.inl ⟨by rfl, ?_⟩) (by assumption) ?_); rotate_left; focus (intro wS hSw; (try dsimp only at hSw); go_simp; first | done | with_reducible rfl); try simp only [Act.put, List.setIfInBounds_toArray, List.set_cons_zero, List.set_cons_succ])
  ((refine wpAnyH_take (i := 1) (v := ?_) (by (simp only [List.getElem?_toArray, List.getElem?_cons_succ, List.getElem?_cons_zero]); rfl) (by kernel_rfl) (by kernel_rfl) (by kernel_rfl) (by exact fun _ _ _ h => h) (Or.inl ⟨by rfl, ?_⟩) (by assumption) ?_); rotate_left; focus (intro wS hSw; (try dsimp only at hSw); go_simp; first | done | with_reducible rfl); try simp only [Act.put, List.setIfInBounds_toArray, List.set_cons_zero, List.set_cons_succ])
  ((refine wpAnyH_take (i := 2) (v := ?_) (by (simp only [List.getElem?_toArray, List.getElem?_cons_succ, List.getElem?_cons_zero]); rfl) (by kernel_rfl) (by kernel_rfl) (by kernel_rfl) (by exact fun _ _ _ h => h) (Or.inl ⟨by rfl, ?_⟩) (by assumption) ?_); rotate_left; focus (intro wS hSw; (try dsimp only at hSw); go_simp; first | done | with_reducible rfl); try simp only [Act.put, List.setIfInBounds_toArray, List.set_cons_zero, List.set_cons_succ])
  ((refine wpAnyH_take (i := 3) (v := ?_) (by (simp only [List.getElem?_toArray, List.getElem?_cons_succ, List.getElem?_cons_zero]); rfl) (by kernel_rfl) (by kernel_rfl) (by kernel_rfl) (by exact fun _ _ _ h => h) (Or.inl ⟨by rfl, ?_⟩) (by assumption) ?_); rotate_left; focus (intro wS hSw; (try dsimp only at hSw); go_simp; first | done | with_reducible rfl); try simp only [Act.put, List.setIfInBounds_toArray, List.set_cons_zero, List.set_cons_succ])
  refine wpAnyH_ready (rs := [4]) (by kernel_rfl) (by simp) ?_
  refine AllReadyH.cons (by (simp only [List.getElem?_toArray, List.getElem?_cons_succ, List.getElem?_cons_zero]); rfl) (fun K hK => ?_) AllReadyH.nil
  go_simp
  go_fit (HOU.out _ _ (HSV.out _ (HT0.out.below HB.out.drew) (HL0.out.below HB.out.drew) (HS0.out.below HB.out.drew) (HD0.out.below HB.out.drew)))
  rintro e W4 ⟨rfl, hB⟩
  replace hB := below_undrew hB
  replace HB := Lib.hid (HB.out.trans (hB.mono HB.out.size))
  replace HT := Lib.hid (HT0.out.below HB.out)
  replace HL := Lib.hid (HL0.out.below HB.out)
  replace HS := Lib.hid (HS0.out.below HB.out)
  replace HD := Lib.hid (HD0.out.below HB.out)
  replace HR := Lib.hid (HR.out.step hB)
  replace HT9 := Lib.hid (HT9.out.step hB)
  go_wp2_with fail
  refine hK.out _ _ ⟨⟨cell_at HR.out 0, cell_at HR.out 1, cell_at HR.out 2, cell_at HR.out 3, cell_at HR.out 4, cell_at HR.out 5, cell_at HR.out 6, HR.out.lt⟩, ⟨cell_at HT9.out 0, cell_at HT9.out 1, cell_at HT9.out 2, cell_at HT9.out 3, cell_at HT9.out 4, HT9.out.lt⟩⟩ (fun hHeld => ?_)
  clear hK K hB
  try simp only [Act.put, List.setIfInBounds_toArray, List.set_cons_zero, List.set_cons_succ]
  ((refine wpAnyH_take (i := 5) (v := ?_) (by (simp only [List.getElem?_toArray, List.getElem?_cons_succ, List.getElem?_cons_zero]); rfl) (by kernel_rfl) (by kernel_rfl) (by kernel_rfl) (by exact fun _ _ _ h => h) (Or.inl ⟨by rfl, ?_⟩) (by assumption) ?_); rotate_left; focus (intro wS hSw; (try dsimp only at hSw); go_simp; first | done | with_reducible rfl); try simp only [Act.put, List.setIfInBounds_toArray, List.set_cons_zero, List.set_cons_succ])
  ((refine wpAnyH_take (i := 6) (v := ?_) (by (simp only [List.getElem?_toArray, List.getElem?_cons_succ, List.getElem?_cons_zero]); rfl) (by kernel_rfl) (by kernel_rfl) (by kernel_rfl) (by exact fun _ _ _ h => h) (Or.inl ⟨by rfl, ?_⟩) (by assumption) ?_); rotate_left; focus (intro wS hSw; (try dsimp only at hSw); go_simp; first | done | with_reducible rfl); try simp only [Act.put, List.setIfInBounds_toArray, List.set_cons_zero, List.set_cons_succ])
  ((refine wpAnyH_take (i := 7) (v := ?_) (by (simp only [List.getElem?_toArray, List.getElem?_cons_succ, List.getElem?_cons_zero]); rfl) (by kernel_rfl) (by kernel_rfl) (by kernel_rfl) (by exact fun _ _ _ h => h) (Or.inl ⟨by rfl, ?_⟩) (by assumption) ?_); rotate_left; focus (intro wS hSw; (try dsimp only at hSw); go_simp; first | done | with_reducible rfl); try simp only [Act.put, List.setIfInBounds_toArray, List.set_cons_zero, List.set_cons_succ])
  refine wpAnyH_done (by kernel_rfl) ?_ _
  try simp only [Act.put, List.setIfInBounds_toArray, List.set_cons_zero, List.set_cons_succ]
  go_wp2_with fail
  go_ret
  exact ⟨rfl, HB.out⟩
end Go.Proofs.Ytfgnjpdlchimpaa
namespace Go.Proofs.Ytfgnjpdlchimpaa
open Go.RowKit
set_option linter.unusedSimpArgs false
set_option linter.unusedVariables false

set_option maxRecDepth 100000 in
set_option maxHeartbeats 16000000 in
theorem ledgerCap_walk (v vi : Value) (s : StE) (kd cli nu te ra bu sh ep le sz sp : Int) (cl : Bool) (l : List Int) (tk : Int) (w : World) (h : SV w v s) (hi : InV w vi l) (hbd : (-9223372036854775808 ≤ sh ∧ sh ≤ 9223372036854775807) ∧ (-9223372036854775808 ≤ ep ∧ ep ≤ 9223372036854775807) ∧ (-9223372036854775808 ≤ nu ∧ nu ≤ 9223372036854775807) ∧ (-9223372036854775808 ≤ te ∧ te ≤ 9223372036854775807)) (hsp : (-9223372036854775808 ≤ sp ∧ sp ≤ 9223372036854775807)) :
    Calls Try.prog 7 #[v, .agg #[.int .i8 kd, .int .i64 cli, .int .i64 nu, .int .i64 te, .int .i64 ra, .int .i64 bu, .int .i64 sh, .int .i64 ep, .int .i64 le, .int .i64 sz, .int .i64 sp, .bool cl, vi], .int .i64 tk] w fun e w' => e = .returned (.bool true) ∧ Below w.heap.size w w' := by
  obtain ⟨vt, vl, vs, vd, rfl, ht, hl, hs, hd⟩ := h
  obtain ⟨ta, tn, tc, rfl, Htn, tn1, tn2⟩ := ht.sh
  obtain ⟨la, ln, lc, rfl, Hln, ln1, ln2⟩ := hl.sh
  obtain ⟨sa, sn, sc, rfl, Hsn, sn1, sn2⟩ := hs.sh
  obtain ⟨da, dn, dc, rfl, Hdn, dn1, dn2⟩ := hd.sh
  have HT0 := Lib.hid ht
  have HL0 := Lib.hid hl
  have HS0 := Lib.hid hs
  have HD0 := Lib.hid hd
  have HT := Lib.hid ht
  have HL := Lib.hid hl
  have HS := Lib.hid hs
  have HD := Lib.hid hd
  clear ht hl hs hd
  have HSV : Hid (∀ W, TV W (.slice ta tn tc) s.ts → LeV W (.slice la ln lc) s.ls → SeV W (.slice sa sn sc) s.ss → DkV W (.slice da dn dc) s.ds → SV W (.agg #[.int .i64 s.term, .int .i64 s.stamp, .int .i64 s.next, .slice ta tn tc, .slice la ln lc, .slice sa sn sc, .slice da dn dc]) s) := Lib.hid (fun W h1 h2 h3 h4 => ⟨_, _, _, _, rfl, h1, h2, h3, h4⟩)
  have HGT := Lib.hid (fun W v (h : SV W v s) => greatS_any v s W h)
  obtain ⟨G, hG⟩ : ∃ G, G = (decide (60 < s.ts.length) || decide (100 < s.ls.length) || decide (60 < s.ss.length) || decide (60 < s.ds.length)) := ⟨_, rfl⟩
  rw [← hG] at HGT
  have HFEW : Hid (G = false → fewS s) := Lib.hid (fun h => by
    rw [h] at hG
    have hG := hG.symm
    simp only [Bool.or_eq_false_iff, decide_eq_false_iff_not] at hG
    unfold fewS
    omega)
  have HWK := Lib.hid wakes_any
  clear hG
  obtain ⟨ia, iN, ic, rfl, Hin, in1, in2⟩ := hi.sh
  have HI0 := Lib.hid hi
  have HI := Lib.hid hi
  clear hi
  have HB : Hid (Below w.heap.size w w) := Lib.hid (Below.refl _ _)
  go_enter Try.func7, Try.ntmps7
  go_upto_region 1 with fail
  obtain ⟨N, hN⟩ : ∃ n0, n0 = w.heap.size := ⟨_, rfl⟩
  have HLON : Hid (w.heap.size ≤ N) := Lib.hid (by have := HB.out.size; omega)
  obtain ⟨W1, hA0⟩ : ∃ W0, W0 = w.alloc (.cells #[.int .i64 s.term, .int .i64 s.stamp, .int .i64 s.next, .slice ta tn tc, .slice la ln lc, .slice sa sn sc, .slice da dn dc] 27) := ⟨_, rfl⟩
  have hB : Below w.heap.size w W1 := by rw [hA0]; exact (Below.refl _ _).alloc (Nat.le_refl _) _
  have hS0 : W1.heap.size = N + 1 := by rw [hA0]; simp [← hN]
  have HR := Lib.hid (show Blk W1 N #[.int .i64 s.term, .int .i64 s.stamp, .int .i64 s.next, .slice ta tn tc, .slice la ln lc, .slice sa sn sc, .slice da dn dc] 27 by rw [hA0, hN]; exact blk_new _ _ _)
  replace HB := Lib.hid (HB.out.trans (hB.mono HB.out.size))
  replace HT := Lib.hid (HT0.out.below HB.out)
  replace HL := Lib.hid (HL0.out.below HB.out)
  replace HS := Lib.hid (HS0.out.below HB.out)
  replace HD := Lib.hid (HD0.out.below HB.out)
  replace HI := Lib.hid (HI0.out.below HB.out)
  clear hB
  obtain ⟨W2, hA1⟩ : ∃ W0, W0 = W1.alloc (.cells #[.int .i8 kd, .int .i64 cli, .int .i64 nu, .int .i64 te, .int .i64 ra, .int .i64 bu, .int .i64 sh, .int .i64 ep, .int .i64 le, .int .i64 sz, .int .i64 sp, .bool cl, .slice ia iN ic] 52) := ⟨_, rfl⟩
  have hB : Below W1.heap.size W1 W2 := by rw [hA1]; exact (Below.refl _ _).alloc (Nat.le_refl _) _
  have hS1 : W2.heap.size = N + 2 := by rw [hA1]; simp [hS0]
  have HC := Lib.hid (show Blk W2 (N + 1) #[.int .i8 kd, .int .i64 cli, .int .i64 nu, .int .i64 te, .int .i64 ra, .int .i64 bu, .int .i64 sh, .int .i64 ep, .int .i64 le, .int .i64 sz, .int .i64 sp, .bool cl, .slice ia iN ic] 52 by rw [hA1, ← hS0]; exact blk_new _ _ _)
  replace HB := Lib.hid (HB.out.trans (hB.mono HB.out.size))
  replace HT := Lib.hid (HT0.out.below HB.out)
  replace HL := Lib.hid (HL0.out.below HB.out)
  replace HS := Lib.hid (HS0.out.below HB.out)
  replace HD := Lib.hid (HD0.out.below HB.out)
  replace HI := Lib.hid (HI0.out.below HB.out)
  replace HR := Lib.hid (HR.out.step hB)
  clear hB
  have HSN := Lib.hid hS1
  rw [← hN, ← hA0, ← hA1]
  clear hA1 hA0 hN hS0 hS1
  have qR0 : W2.cell? ⟨N, 0, none⟩ = some (.int .i64 s.term) := cell_at HR.out 0
  have qR1 : W2.cell? ⟨N, 1, none⟩ = some (.int .i64 s.stamp) := cell_at HR.out 1
  have qR2 : W2.cell? ⟨N, 2, none⟩ = some (.int .i64 s.next) := cell_at HR.out 2
  have qR3 : W2.cell? ⟨N, 3, none⟩ = some (.slice ta tn tc) := cell_at HR.out 3
  have qR4 : W2.cell? ⟨N, 4, none⟩ = some (.slice la ln lc) := cell_at HR.out 4
  have qR5 : W2.cell? ⟨N, 5, none⟩ = some (.slice sa sn sc) := cell_at HR.out 5
  have qR6 : W2.cell? ⟨N, 6, none⟩ = some (.slice da dn dc) := cell_at HR.out 6
  have qRz : ∀ j, W2.frozen? ⟨N, j, none⟩ = false := fun j => free_at HR.out j
  have qRl : N < W2.heap.size := HR.out.lt
  have qC0 : W2.cell? ⟨(N + 1), 0, none⟩ = some (.int .i8 kd) := cell_at HC.out 0
  have qC1 : W2.cell? ⟨(N + 1), 1, none⟩ = some (.int .i64 cli) := cell_at HC.out 1
  have qC2 : W2.cell? ⟨(N + 1), 2, none⟩ = some (.int .i64 nu) := cell_at HC.out 2
  have qC3 : W2.cell? ⟨(N + 1), 3, none⟩ = some (.int .i64 te) := cell_at HC.out 3
  have qC4 : W2.cell? ⟨(N + 1), 4, none⟩ = some (.int .i64 ra) := cell_at HC.out 4
  have qC5 : W2.cell? ⟨(N + 1), 5, none⟩ = some (.int .i64 bu) := cell_at HC.out 5
  have qC6 : W2.cell? ⟨(N + 1), 6, none⟩ = some (.int .i64 sh) := cell_at HC.out 6
  have qC7 : W2.cell? ⟨(N + 1), 7, none⟩ = some (.int .i64 ep) := cell_at HC.out 7
  have qC8 : W2.cell? ⟨(N + 1), 8, none⟩ = some (.int .i64 le) := cell_at HC.out 8
  have qC9 : W2.cell? ⟨(N + 1), 9, none⟩ = some (.int .i64 sz) := cell_at HC.out 9
  have qC10 : W2.cell? ⟨(N + 1), 10, none⟩ = some (.int .i64 sp) := cell_at HC.out 10
  have qC11 : W2.cell? ⟨(N + 1), 11, none⟩ = some (.bool cl) := cell_at HC.out 11
  have qC12 : W2.cell? ⟨(N + 1), 12, none⟩ = some (.slice ia iN ic) := cell_at HC.out 12
  have qCz : ∀ j, W2.frozen? ⟨(N + 1), j, none⟩ = false := fun j => free_at HC.out j
  have qCl : (N + 1) < W2.heap.size := HC.out.lt
  go_wp2_with fail
  go_at_call 9
  go_fit (HGT.out _ _ (HSV.out _ HT.out HL.out HS.out HD.out))
  rintro e W3 ⟨rfl, hB⟩
  clear qR0 qR1 qR2 qR3 qR4 qR5 qR6 qRz qRl qC0 qC1 qC2 qC3 qC4 qC5 qC6 qC7 qC8 qC9 qC10 qC11 qC12 qCz qCl
  replace HB := Lib.hid (HB.out.trans (hB.mono HB.out.size))
  replace HT := Lib.hid (HT0.out.below HB.out)
  replace HL := Lib.hid (HL0.out.below HB.out)
  replace HS := Lib.hid (HS0.out.below HB.out)
  replace HD := Lib.hid (HD0.out.below HB.out)
  replace HI := Lib.hid (HI0.out.below HB.out)
  replace HR := Lib.hid (HR.out.step hB)
  replace HC := Lib.hid (HC.out.step hB)
  clear hB
  cases G
  rotate_left
  · skip
    go_wp2_with fail
    go_at_call 10
    go_fit (HWK.out _)
    rintro e W4 ⟨rfl, hB⟩
    replace HB := Lib.hid (HB.out.trans (hB.mono HB.out.size))
    replace HT := Lib.hid (HT0.out.below HB.out)
    replace HL := Lib.hid (HL0.out.below HB.out)
    replace HS := Lib.hid (HS0.out.below HB.out)
    replace HD := Lib.hid (HD0.out.below HB.out)
    replace HI := Lib.hid (HI0.out.below HB.out)
    replace HR := Lib.hid (HR.out.step hB)
    replace HC := Lib.hid (HC.out.step hB)
    clear hB
    go_wp2_with fail
    go_ret
    exact ⟨rfl, HB.out⟩
  by_cases hbig : 100 < iN
  · skip
    have tb : decide ((100 : Int) < (iN : Int)) = true := decide_eq_true (by omega)
    have qC0 : W3.cell? ⟨(N + 1), 0, none⟩ = some (.int .i8 kd) := cell_at HC.out 0
    have qC1 : W3.cell? ⟨(N + 1), 1, none⟩ = some (.int .i64 cli) := cell_at HC.out 1
    have qC2 : W3.cell? ⟨(N + 1), 2, none⟩ = some (.int .i64 nu) := cell_at HC.out 2
    have qC3 : W3.cell? ⟨(N + 1), 3, none⟩ = some (.int .i64 te) := cell_at HC.out 3
    have qC4 : W3.cell? ⟨(N + 1), 4, none⟩ = some (.int .i64 ra) := cell_at HC.out 4
    have qC5 : W3.cell? ⟨(N + 1), 5, none⟩ = some (.int .i64 bu) := cell_at HC.out 5
    have qC6 : W3.cell? ⟨(N + 1), 6, none⟩ = some (.int .i64 sh) := cell_at HC.out 6
    have qC7 : W3.cell? ⟨(N + 1), 7, none⟩ = some (.int .i64 ep) := cell_at HC.out 7
    have qC8 : W3.cell? ⟨(N + 1), 8, none⟩ = some (.int .i64 le) := cell_at HC.out 8
    have qC9 : W3.cell? ⟨(N + 1), 9, none⟩ = some (.int .i64 sz) := cell_at HC.out 9
    have qC10 : W3.cell? ⟨(N + 1), 10, none⟩ = some (.int .i64 sp) := cell_at HC.out 10
    have qC11 : W3.cell? ⟨(N + 1), 11, none⟩ = some (.bool cl) := cell_at HC.out 11
    have qC12 : W3.cell? ⟨(N + 1), 12, none⟩ = some (.slice ia iN ic) := cell_at HC.out 12
    have qCz : ∀ j, W3.frozen? ⟨(N + 1), j, none⟩ = false := fun j => free_at HC.out j
    have qCl : (N + 1) < W3.heap.size := HC.out.lt
    go_wp2_with fail
    go_at_call 10
    go_fit (HWK.out _)
    rintro e W4 ⟨rfl, hB⟩
    clear qC0 qC1 qC2 qC3 qC4 qC5 qC6 qC7 qC8 qC9 qC10 qC11 qC12 qCz qCl
    replace HB := Lib.hid (HB.out.trans (hB.mono HB.out.size))
    replace HT := Lib.hid (HT0.out.below HB.out)
    replace HL := Lib.hid (HL0.out.below HB.out)
    replace HS := Lib.hid (HS0.out.below HB.out)
    replace HD := Lib.hid (HD0.out.below HB.out)
    replace HI := Lib.hid (HI0.out.below HB.out)
    replace HR := Lib.hid (HR.out.step hB)
    replace HC := Lib.hid (HC.out.step hB)
    clear hB
    go_wp2_with fail
    go_ret
    exact ⟨rfl, HB.out⟩
  have tb : decide ((100 : Int) < (iN : Int)) = false := decide_eq_false (by omega)
  have hfew := HFEW.out rfl
  have HFW := Lib.hid hfew
  have HCD := Lib.hid (fun W v (h : SV W v s) => rcheckS_any v s W h hfew)
  obtain ⟨C, hC⟩ : ∃ C, C = chkS s := ⟨_, rfl⟩
  rw [← hC] at HCD
  have HCE := Lib.hid hC
  clear hfew hC
  have qR0 : W3.cell? ⟨N, 0, none⟩ = some (.int .i64 s.term) := cell_at HR.out 0
  have qR1 : W3.cell? ⟨N, 1, none⟩ = some (.int .i64 s.stamp) := cell_at HR.out 1
  have qR2 : W3.cell? ⟨N, 2, none⟩ = some (.int .i64 s.next) := cell_at HR.out 2
  have qR3 : W3.cell? ⟨N, 3, none⟩ = some (.slice ta tn tc) := cell_at HR.out 3
  have qR4 : W3.cell? ⟨N, 4, none⟩ = some (.slice la ln lc) := cell_at HR.out 4
  have qR5 : W3.cell? ⟨N, 5, none⟩ = some (.slice sa sn sc) := cell_at HR.out 5
  have qR6 : W3.cell? ⟨N, 6, none⟩ = some (.slice da dn dc) := cell_at HR.out 6
  have qRz : ∀ j, W3.frozen? ⟨N, j, none⟩ = false := fun j => free_at HR.out j
  have qRl : N < W3.heap.size := HR.out.lt
  have qC0 : W3.cell? ⟨(N + 1), 0, none⟩ = some (.int .i8 kd) := cell_at HC.out 0
  have qC1 : W3.cell? ⟨(N + 1), 1, none⟩ = some (.int .i64 cli) := cell_at HC.out 1
  have qC2 : W3.cell? ⟨(N + 1), 2, none⟩ = some (.int .i64 nu) := cell_at HC.out 2
  have qC3 : W3.cell? ⟨(N + 1), 3, none⟩ = some (.int .i64 te) := cell_at HC.out 3
  have qC4 : W3.cell? ⟨(N + 1), 4, none⟩ = some (.int .i64 ra) := cell_at HC.out 4
  have qC5 : W3.cell? ⟨(N + 1), 5, none⟩ = some (.int .i64 bu) := cell_at HC.out 5
  have qC6 : W3.cell? ⟨(N + 1), 6, none⟩ = some (.int .i64 sh) := cell_at HC.out 6
  have qC7 : W3.cell? ⟨(N + 1), 7, none⟩ = some (.int .i64 ep) := cell_at HC.out 7
  have qC8 : W3.cell? ⟨(N + 1), 8, none⟩ = some (.int .i64 le) := cell_at HC.out 8
  have qC9 : W3.cell? ⟨(N + 1), 9, none⟩ = some (.int .i64 sz) := cell_at HC.out 9
  have qC10 : W3.cell? ⟨(N + 1), 10, none⟩ = some (.int .i64 sp) := cell_at HC.out 10
  have qC11 : W3.cell? ⟨(N + 1), 11, none⟩ = some (.bool cl) := cell_at HC.out 11
  have qC12 : W3.cell? ⟨(N + 1), 12, none⟩ = some (.slice ia iN ic) := cell_at HC.out 12
  have qCz : ∀ j, W3.frozen? ⟨(N + 1), j, none⟩ = false := fun j => free_at HC.out j
  have qCl : (N + 1) < W3.heap.size := HC.out.lt
  go_wp2_with fail
  go_at_call 13
  go_fit (HCD.out _ _ (HSV.out _ HT.out HL.out HS.out HD.out))
  rintro e W4 ⟨rfl, hB⟩
  clear qR0 qR1 qR2 qR3 qR4 qR5 qR6 qRz qRl qC0 qC1 qC2 qC3 qC4 qC5 qC6 qC7 qC8 qC9 qC10 qC11 qC12 qCz qCl
  replace HB := Lib.hid (HB.out.trans (hB.mono HB.out.size))
  replace HT := Lib.hid (HT0.out.below HB.out)
  replace HL := Lib.hid (HL0.out.below HB.out)
  replace HS := Lib.hid (HS0.out.below HB.out)
  replace HD := Lib.hid (HD0.out.below HB.out)
  replace HI := Lib.hid (HI0.out.below HB.out)
  replace HR := Lib.hid (HR.out.step hB)
  replace HC := Lib.hid (HC.out.step hB)
  clear hB
  cases C
  · skip
    go_wp2_with fail
    go_at_call 10
    go_fit (HWK.out _)
    rintro e W5 ⟨rfl, hB⟩
    replace HB := Lib.hid (HB.out.trans (hB.mono HB.out.size))
    replace HT := Lib.hid (HT0.out.below HB.out)
    replace HL := Lib.hid (HL0.out.below HB.out)
    replace HS := Lib.hid (HS0.out.below HB.out)
    replace HD := Lib.hid (HD0.out.below HB.out)
    replace HI := Lib.hid (HI0.out.below HB.out)
    replace HR := Lib.hid (HR.out.step hB)
    replace HC := Lib.hid (HC.out.step hB)
    clear hB
    go_wp2_with fail
    go_ret
    exact ⟨rfl, HB.out⟩
  have HVS := Lib.hid (vs_of HCE.out.symm)
  obtain ⟨t1, ht1⟩ : ∃ n, n = if tk < 0 then 0 else tk := ⟨_, rfl⟩
  obtain ⟨t2, ht2⟩ : ∃ n, n = if 1048576 < t1 then 1048576 else t1 := ⟨_, rfl⟩
  have htb : 0 ≤ t2 ∧ t2 ≤ 1048576 := by split at ht1 <;> split at ht2 <;> omega
  have HTB := Lib.hid htb
  have hmx : (if tk < 0 then 0 else tk) = t1 := ht1.symm
  have hmn : (if 1048576 < t1 then 1048576 else t1) = t2 := ht2.symm
  have HMX := Lib.hid hmx
  have HMN := Lib.hid hmn
  clear ht1 ht2 htb hmx hmn
  have hga := grant_cap HVS.out sh ep nu te sz
  have hrb := report_cap HVS.out sh ep le sp cl
  have hxc := expire_cap HVS.out l
  have hcc := credit_cap HVS.out t2 HTB.out.1 HTB.out.2
  have HGP := Lib.hid (fun W v (h : SV W v s) => grant_any v s sh ep nu te sz W h HFW.out hbd)
  have HRP := Lib.hid (fun W v (h : SV W v s) => report_any v s sh ep le sp cl W h HFW.out hsp)
  have HXP := Lib.hid (fun W v vi (h : SV W v s) (hi : InV W vi l) => expire_any v vi s l W h hi HFW.out)
  have HKP := Lib.hid (fun W v (h : SV W v s) => credit_led v s t2 W h HFW.out)
  have hfa := hga.1.few (grS_rest s sh ep nu te sz) HFW.out
  have hfb := hrb.1.few (rpS_rest s sh ep le sp cl) HFW.out
  have hfc := hxc.1.few (exS_rest s l) HFW.out
  have hfd := hcc.1.few (crS_rest s t2) HFW.out
  obtain ⟨r9, q9, l9, z9, hA⟩ := grA_sh2 s sh ep nu te sz HCE.out.symm
  obtain ⟨ge, hge⟩ : ∃ n, n = grE s sh ep nu te sz := ⟨_, rfl⟩
  obtain ⟨sa9, hsa⟩ : ∃ t, t = grS s sh ep nu te sz := ⟨_, rfl⟩
  obtain ⟨sb9, hsb⟩ : ∃ t, t = rpS s sh ep le sp cl := ⟨_, rfl⟩
  obtain ⟨sc9, hsc⟩ : ∃ t, t = exS s l := ⟨_, rfl⟩
  obtain ⟨sd9, hsd⟩ : ∃ t, t = credS s t2 := ⟨_, rfl⟩
  obtain ⟨er, her⟩ : ∃ n, n = rpE s sh ep le sp := ⟨_, rfl⟩
  rw [← hge] at hA hga
  rw [hA, ← hsa] at HGP
  rw [← hsb, ← her] at HRP
  rw [← hsc] at HXP
  rw [← hsd] at HKP
  rw [← hsa] at hga hfa
  rw [← hsb] at hrb hfb
  rw [← hsc] at hxc hfc
  rw [← hsd] at hcc hfd
  unfold ansG at HGP
  have HGA := Lib.hid hga
  have HRB := Lib.hid hrb
  have HXC := Lib.hid hxc
  have HCC := Lib.hid hcc
  have HFA := Lib.hid hfa
  have HFB := Lib.hid hfb
  have HFC := Lib.hid hfc
  have HFD := Lib.hid hfd
  have HKA := Lib.hid (fun W v (h : SV W v sa9) => rcheckS_any v sa9 W h HFA.out)
  have HKB := Lib.hid (fun W v (h : SV W v sb9) => rcheckS_any v sb9 W h HFB.out)
  have HKC := Lib.hid (fun W v (h : SV W v sc9) => rcheckS_any v sc9 W h HFC.out)
  have HKD := Lib.hid (fun W v (h : SV W v sd9) => rcheckS_any v sd9 W h HFD.out)
  rw [HGA.out.1.chk] at HKA
  rw [HRB.out.1.chk] at HKB
  rw [HXC.out.1.chk] at HKC
  rw [HCC.out.1.chk] at HKD
  clear hga hrb hxc hcc hfa hfb hfc hfd hA hge hsa hsb hsc hsd her
  have qR0 : W4.cell? ⟨N, 0, none⟩ = some (.int .i64 s.term) := cell_at HR.out 0
  have qR1 : W4.cell? ⟨N, 1, none⟩ = some (.int .i64 s.stamp) := cell_at HR.out 1
  have qR2 : W4.cell? ⟨N, 2, none⟩ = some (.int .i64 s.next) := cell_at HR.out 2
  have qR3 : W4.cell? ⟨N, 3, none⟩ = some (.slice ta tn tc) := cell_at HR.out 3
  have qR4 : W4.cell? ⟨N, 4, none⟩ = some (.slice la ln lc) := cell_at HR.out 4
  have qR5 : W4.cell? ⟨N, 5, none⟩ = some (.slice sa sn sc) := cell_at HR.out 5
  have qR6 : W4.cell? ⟨N, 6, none⟩ = some (.slice da dn dc) := cell_at HR.out 6
  have qRz : ∀ j, W4.frozen? ⟨N, j, none⟩ = false := fun j => free_at HR.out j
  have qRl : N < W4.heap.size := HR.out.lt
  have qC0 : W4.cell? ⟨(N + 1), 0, none⟩ = some (.int .i8 kd) := cell_at HC.out 0
  have qC1 : W4.cell? ⟨(N + 1), 1, none⟩ = some (.int .i64 cli) := cell_at HC.out 1
  have qC2 : W4.cell? ⟨(N + 1), 2, none⟩ = some (.int .i64 nu) := cell_at HC.out 2
  have qC3 : W4.cell? ⟨(N + 1), 3, none⟩ = some (.int .i64 te) := cell_at HC.out 3
  have qC4 : W4.cell? ⟨(N + 1), 4, none⟩ = some (.int .i64 ra) := cell_at HC.out 4
  have qC5 : W4.cell? ⟨(N + 1), 5, none⟩ = some (.int .i64 bu) := cell_at HC.out 5
  have qC6 : W4.cell? ⟨(N + 1), 6, none⟩ = some (.int .i64 sh) := cell_at HC.out 6
  have qC7 : W4.cell? ⟨(N + 1), 7, none⟩ = some (.int .i64 ep) := cell_at HC.out 7
  have qC8 : W4.cell? ⟨(N + 1), 8, none⟩ = some (.int .i64 le) := cell_at HC.out 8
  have qC9 : W4.cell? ⟨(N + 1), 9, none⟩ = some (.int .i64 sz) := cell_at HC.out 9
  have qC10 : W4.cell? ⟨(N + 1), 10, none⟩ = some (.int .i64 sp) := cell_at HC.out 10
  have qC11 : W4.cell? ⟨(N + 1), 11, none⟩ = some (.bool cl) := cell_at HC.out 11
  have qC12 : W4.cell? ⟨(N + 1), 12, none⟩ = some (.slice ia iN ic) := cell_at HC.out 12
  have qCz : ∀ j, W4.frozen? ⟨(N + 1), j, none⟩ = false := fun j => free_at HC.out j
  have qCl : (N + 1) < W4.heap.size := HC.out.lt
  go_wp2_with fail
  go_at_call 20
  go_fit (HGP.out _ _ (HSV.out _ HT.out HL.out HS.out HD.out))
  rintro e W5 ⟨v1, rfl, hv1, hB⟩
  clear qR0 qR1 qR2 qR3 qR4 qR5 qR6 qRz qRl qC0 qC1 qC2 qC3 qC4 qC5 qC6 qC7 qC8 qC9 qC10 qC11 qC12 qCz qCl
  replace HB := Lib.hid (HB.out.trans (hB.mono HB.out.size))
  replace HT := Lib.hid (HT0.out.below HB.out)
  replace HL := Lib.hid (HL0.out.below HB.out)
  replace HS := Lib.hid (HS0.out.below HB.out)
  replace HD := Lib.hid (HD0.out.below HB.out)
  replace HI := Lib.hid (HI0.out.below HB.out)
  replace HR := Lib.hid (HR.out.step hB)
  replace HC := Lib.hid (HC.out.step hB)
  clear hB
  obtain ⟨xt1, xl1, xs1, xd1, rfl, ht1, hl1, hs1, hd1⟩ := hv1
  obtain ⟨at1, nt1, ct1, rfl, _, _, _⟩ := ht1.sh
  obtain ⟨al1, nl1, cl1, rfl, _, _, _⟩ := hl1.sh
  obtain ⟨as1, ns1, cs1, rfl, _, _, _⟩ := hs1.sh
  obtain ⟨ad1, nd1, cd1, rfl, _, _, _⟩ := hd1.sh
  have V1 := Lib.hid (show SV _ (.agg #[.int .i64 sa9.term, .int .i64 sa9.stamp, .int .i64 sa9.next, .slice at1 nt1 ct1, .slice al1 nl1 cl1, .slice as1 ns1 cs1, .slice ad1 nd1 cd1]) sa9 from ⟨_, _, _, _, rfl, ht1, hl1, hs1, hd1⟩)
  clear ht1 hl1 hs1 hd1
  go_upto_region 4 with fail
  obtain ⟨A9, hA9⟩ : ∃ n0, n0 = W5.heap.size := ⟨_, rfl⟩
  have HXA9HR : Hid (N < A9) := Lib.hid (by rw [hA9]; exact HR.out.lt)
  have HXA9HC : Hid ((N + 1) < A9) := Lib.hid (by rw [hA9]; exact HC.out.lt)
  have HLOA9 : Hid (w.heap.size ≤ A9) := Lib.hid (by have := HB.out.size; omega)
  obtain ⟨W6, hA0⟩ : ∃ W0, W0 = W5.alloc (.cells #[.int .i64 sa9.term, .int .i64 sa9.stamp, .int .i64 sa9.next, .slice at1 nt1 ct1, .slice al1 nl1 cl1, .slice as1 ns1 cs1, .slice ad1 nd1 cd1] 27) := ⟨_, rfl⟩
  have hB : Below W5.heap.size W5 W6 := by rw [hA0]; exact (Below.refl _ _).alloc (Nat.le_refl _) _
  have hS0 : W6.heap.size = A9 + 1 := by rw [hA0]; simp [← hA9]
  have HA1 := Lib.hid (show Blk W6 A9 #[.int .i64 sa9.term, .int .i64 sa9.stamp, .int .i64 sa9.next, .slice at1 nt1 ct1, .slice al1 nl1 cl1, .slice as1 ns1 cs1, .slice ad1 nd1 cd1] 27 by rw [hA0, hA9]; exact blk_new _ _ _)
  replace HB := Lib.hid (HB.out.trans (hB.mono HB.out.size))
  replace HT := Lib.hid (HT0.out.below HB.out)
  replace HL := Lib.hid (HL0.out.below HB.out)
  replace HS := Lib.hid (HS0.out.below HB.out)
  replace HD := Lib.hid (HD0.out.below HB.out)
  replace HI := Lib.hid (HI0.out.below HB.out)
  replace HR := Lib.hid (HR.out.step hB)
  replace HC := Lib.hid (HC.out.step hB)
  replace V1 := Lib.hid (V1.out.below hB)
  clear hB
  obtain ⟨W7, hA1⟩ : ∃ W0, W0 = W6.alloc (.cells #[.int .i64 ge, .int .i64 r9, .int .i64 q9, .int .i64 l9, .int .i64 z9] 41) := ⟨_, rfl⟩
  have hB : Below W6.heap.size W6 W7 := by rw [hA1]; exact (Below.refl _ _).alloc (Nat.le_refl _) _
  have hS1 : W7.heap.size = A9 + 2 := by rw [hA1]; simp [hS0]
  have HA2 := Lib.hid (show Blk W7 (A9 + 1) #[.int .i64 ge, .int .i64 r9, .int .i64 q9, .int .i64 l9, .int .i64 z9] 41 by rw [hA1, ← hS0]; exact blk_new _ _ _)
  replace HB := Lib.hid (HB.out.trans (hB.mono HB.out.size))
  replace HT := Lib.hid (HT0.out.below HB.out)
  replace HL := Lib.hid (HL0.out.below HB.out)
  replace HS := Lib.hid (HS0.out.below HB.out)
  replace HD := Lib.hid (HD0.out.below HB.out)
  replace HI := Lib.hid (HI0.out.below HB.out)
  replace HR := Lib.hid (HR.out.step hB)
  replace HC := Lib.hid (HC.out.step hB)
  replace V1 := Lib.hid (V1.out.below hB)
  replace HA1 := Lib.hid (HA1.out.step hB)
  clear hB
  have HSA9 := Lib.hid hS1
  rw [← hA9, ← hA0, ← hA1]
  clear hA1 hA0 hA9 hS0 hS1
  have qR0 : W7.cell? ⟨N, 0, none⟩ = some (.int .i64 s.term) := cell_at HR.out 0
  have qR1 : W7.cell? ⟨N, 1, none⟩ = some (.int .i64 s.stamp) := cell_at HR.out 1
  have qR2 : W7.cell? ⟨N, 2, none⟩ = some (.int .i64 s.next) := cell_at HR.out 2
  have qR3 : W7.cell? ⟨N, 3, none⟩ = some (.slice ta tn tc) := cell_at HR.out 3
  have qR4 : W7.cell? ⟨N, 4, none⟩ = some (.slice la ln lc) := cell_at HR.out 4
  have qR5 : W7.cell? ⟨N, 5, none⟩ = some (.slice sa sn sc) := cell_at HR.out 5
  have qR6 : W7.cell? ⟨N, 6, none⟩ = some (.slice da dn dc) := cell_at HR.out 6
  have qRz : ∀ j, W7.frozen? ⟨N, j, none⟩ = false := fun j => free_at HR.out j
  have qRl : N < W7.heap.size := HR.out.lt
  have qC0 : W7.cell? ⟨(N + 1), 0, none⟩ = some (.int .i8 kd) := cell_at HC.out 0
  have qC1 : W7.cell? ⟨(N + 1), 1, none⟩ = some (.int .i64 cli) := cell_at HC.out 1
  have qC2 : W7.cell? ⟨(N + 1), 2, none⟩ = some (.int .i64 nu) := cell_at HC.out 2
  have qC3 : W7.cell? ⟨(N + 1), 3, none⟩ = some (.int .i64 te) := cell_at HC.out 3
  have qC4 : W7.cell? ⟨(N + 1), 4, none⟩ = some (.int .i64 ra) := cell_at HC.out 4
  have qC5 : W7.cell? ⟨(N + 1), 5, none⟩ = some (.int .i64 bu) := cell_at HC.out 5
  have qC6 : W7.cell? ⟨(N + 1), 6, none⟩ = some (.int .i64 sh) := cell_at HC.out 6
  have qC7 : W7.cell? ⟨(N + 1), 7, none⟩ = some (.int .i64 ep) := cell_at HC.out 7
  have qC8 : W7.cell? ⟨(N + 1), 8, none⟩ = some (.int .i64 le) := cell_at HC.out 8
  have qC9 : W7.cell? ⟨(N + 1), 9, none⟩ = some (.int .i64 sz) := cell_at HC.out 9
  have qC10 : W7.cell? ⟨(N + 1), 10, none⟩ = some (.int .i64 sp) := cell_at HC.out 10
  have qC11 : W7.cell? ⟨(N + 1), 11, none⟩ = some (.bool cl) := cell_at HC.out 11
  have qC12 : W7.cell? ⟨(N + 1), 12, none⟩ = some (.slice ia iN ic) := cell_at HC.out 12
  have qCz : ∀ j, W7.frozen? ⟨(N + 1), j, none⟩ = false := fun j => free_at HC.out j
  have qCl : (N + 1) < W7.heap.size := HC.out.lt
  go_wp2_with fail
  go_at_call 22
  go_fit (HRP.out _ _ (HSV.out _ HT.out HL.out HS.out HD.out))
  rintro e W8 ⟨v2, rfl, hv2, hB⟩
  clear qR0 qR1 qR2 qR3 qR4 qR5 qR6 qRz qRl qC0 qC1 qC2 qC3 qC4 qC5 qC6 qC7 qC8 qC9 qC10 qC11 qC12 qCz qCl
  replace HB := Lib.hid (HB.out.trans (hB.mono HB.out.size))
  replace HT := Lib.hid (HT0.out.below HB.out)
  replace HL := Lib.hid (HL0.out.below HB.out)
  replace HS := Lib.hid (HS0.out.below HB.out)
  replace HD := Lib.hid (HD0.out.below HB.out)
  replace HI := Lib.hid (HI0.out.below HB.out)
  replace HR := Lib.hid (HR.out.step hB)
  replace HC := Lib.hid (HC.out.step hB)
  replace V1 := Lib.hid (V1.out.below hB)
  replace HA1 := Lib.hid (HA1.out.step hB)
  replace HA2 := Lib.hid (HA2.out.step hB)
  clear hB
  obtain ⟨xt2, xl2, xs2, xd2, rfl, ht2, hl2, hs2, hd2⟩ := hv2
  obtain ⟨at2, nt2, ct2, rfl, _, _, _⟩ := ht2.sh
  obtain ⟨al2, nl2, cl2, rfl, _, _, _⟩ := hl2.sh
  obtain ⟨as2, ns2, cs2, rfl, _, _, _⟩ := hs2.sh
  obtain ⟨ad2, nd2, cd2, rfl, _, _, _⟩ := hd2.sh
  have V2 := Lib.hid (show SV _ (.agg #[.int .i64 sb9.term, .int .i64 sb9.stamp, .int .i64 sb9.next, .slice at2 nt2 ct2, .slice al2 nl2 cl2, .slice as2 ns2 cs2, .slice ad2 nd2 cd2]) sb9 from ⟨_, _, _, _, rfl, ht2, hl2, hs2, hd2⟩)
  clear ht2 hl2 hs2 hd2
  go_upto_region 5 with fail
  obtain ⟨B9, hB9⟩ : ∃ n0, n0 = W8.heap.size := ⟨_, rfl⟩
  have HXB9HR : Hid (N < B9) := Lib.hid (by rw [hB9]; exact HR.out.lt)
  have HXB9HC : Hid ((N + 1) < B9) := Lib.hid (by rw [hB9]; exact HC.out.lt)
  have HXB9HA1 : Hid (A9 < B9) := Lib.hid (by rw [hB9]; exact HA1.out.lt)
  have HXB9HA2 : Hid ((A9 + 1) < B9) := Lib.hid (by rw [hB9]; exact HA2.out.lt)
  have HLOB9 : Hid (w.heap.size ≤ B9) := Lib.hid (by have := HB.out.size; omega)
  obtain ⟨W9, hA0⟩ : ∃ W0, W0 = W8.alloc (.cells #[.int .i64 sb9.term, .int .i64 sb9.stamp, .int .i64 sb9.next, .slice at2 nt2 ct2, .slice al2 nl2 cl2, .slice as2 ns2 cs2, .slice ad2 nd2 cd2] 27) := ⟨_, rfl⟩
  have hB : Below W8.heap.size W8 W9 := by rw [hA0]; exact (Below.refl _ _).alloc (Nat.le_refl _) _
  have hS0 : W9.heap.size = B9 + 1 := by rw [hA0]; simp [← hB9]
  have HB1 := Lib.hid (show Blk W9 B9 #[.int .i64 sb9.term, .int .i64 sb9.stamp, .int .i64 sb9.next, .slice at2 nt2 ct2, .slice al2 nl2 cl2, .slice as2 ns2 cs2, .slice ad2 nd2 cd2] 27 by rw [hA0, hB9]; exact blk_new _ _ _)
  replace HB := Lib.hid (HB.out.trans (hB.mono HB.out.size))
  replace HT := Lib.hid (HT0.out.below HB.out)
  replace HL := Lib.hid (HL0.out.below HB.out)
  replace HS := Lib.hid (HS0.out.below HB.out)
  replace HD := Lib.hid (HD0.out.below HB.out)
  replace HI := Lib.hid (HI0.out.below HB.out)
  replace HR := Lib.hid (HR.out.step hB)
  replace HC := Lib.hid (HC.out.step hB)
  replace V1 := Lib.hid (V1.out.below hB)
  replace HA1 := Lib.hid (HA1.out.step hB)
  replace HA2 := Lib.hid (HA2.out.step hB)
  replace V2 := Lib.hid (V2.out.below hB)
  clear hB
  have HSB9 := Lib.hid hS0
  rw [← hB9, ← hA0]
  clear hA0 hB9 hS0
  have qR0 : W9.cell? ⟨N, 0, none⟩ = some (.int .i64 s.term) := cell_at HR.out 0
  have qR1 : W9.cell? ⟨N, 1, none⟩ = some (.int .i64 s.stamp) := cell_at HR.out 1
  have qR2 : W9.cell? ⟨N, 2, none⟩ = some (.int .i64 s.next) := cell_at HR.out 2
  have qR3 : W9.cell? ⟨N, 3, none⟩ = some (.slice ta tn tc) := cell_at HR.out 3
  have qR4 : W9.cell? ⟨N, 4, none⟩ = some (.slice la ln lc) := cell_at HR.out 4
  have qR5 : W9.cell? ⟨N, 5, none⟩ = some (.slice sa sn sc) := cell_at HR.out 5
  have qR6 : W9.cell? ⟨N, 6, none⟩ = some (.slice da dn dc) := cell_at HR.out 6
  have qRz : ∀ j, W9.frozen? ⟨N, j, none⟩ = false := fun j => free_at HR.out j
  have qRl : N < W9.heap.size := HR.out.lt
  have qC0 : W9.cell? ⟨(N + 1), 0, none⟩ = some (.int .i8 kd) := cell_at HC.out 0
  have qC1 : W9.cell? ⟨(N + 1), 1, none⟩ = some (.int .i64 cli) := cell_at HC.out 1
  have qC2 : W9.cell? ⟨(N + 1), 2, none⟩ = some (.int .i64 nu) := cell_at HC.out 2
  have qC3 : W9.cell? ⟨(N + 1), 3, none⟩ = some (.int .i64 te) := cell_at HC.out 3
  have qC4 : W9.cell? ⟨(N + 1), 4, none⟩ = some (.int .i64 ra) := cell_at HC.out 4
  have qC5 : W9.cell? ⟨(N + 1), 5, none⟩ = some (.int .i64 bu) := cell_at HC.out 5
  have qC6 : W9.cell? ⟨(N + 1), 6, none⟩ = some (.int .i64 sh) := cell_at HC.out 6
  have qC7 : W9.cell? ⟨(N + 1), 7, none⟩ = some (.int .i64 ep) := cell_at HC.out 7
  have qC8 : W9.cell? ⟨(N + 1), 8, none⟩ = some (.int .i64 le) := cell_at HC.out 8
  have qC9 : W9.cell? ⟨(N + 1), 9, none⟩ = some (.int .i64 sz) := cell_at HC.out 9
  have qC10 : W9.cell? ⟨(N + 1), 10, none⟩ = some (.int .i64 sp) := cell_at HC.out 10
  have qC11 : W9.cell? ⟨(N + 1), 11, none⟩ = some (.bool cl) := cell_at HC.out 11
  have qC12 : W9.cell? ⟨(N + 1), 12, none⟩ = some (.slice ia iN ic) := cell_at HC.out 12
  have qCz : ∀ j, W9.frozen? ⟨(N + 1), j, none⟩ = false := fun j => free_at HC.out j
  have qCl : (N + 1) < W9.heap.size := HC.out.lt
  go_wp2_with fail
  go_at_call 24
  go_fit (HXP.out _ _ _ (HSV.out _ HT.out HL.out HS.out HD.out) HI.out)
  rintro e W10 ⟨v3, rfl, hv3, hB⟩
  clear qR0 qR1 qR2 qR3 qR4 qR5 qR6 qRz qRl qC0 qC1 qC2 qC3 qC4 qC5 qC6 qC7 qC8 qC9 qC10 qC11 qC12 qCz qCl
  replace HB := Lib.hid (HB.out.trans (hB.mono HB.out.size))
  replace HT := Lib.hid (HT0.out.below HB.out)
  replace HL := Lib.hid (HL0.out.below HB.out)
  replace HS := Lib.hid (HS0.out.below HB.out)
  replace HD := Lib.hid (HD0.out.below HB.out)
  replace HI := Lib.hid (HI0.out.below HB.out)
  replace HR := Lib.hid (HR.out.step hB)
  replace HC := Lib.hid (HC.out.step hB)
  replace V1 := Lib.hid (V1.out.below hB)
  replace HA1 := Lib.hid (HA1.out.step hB)
  replace HA2 := Lib.hid (HA2.out.step hB)
  replace V2 := Lib.hid (V2.out.below hB)
  replace HB1 := Lib.hid (HB1.out.step hB)
  clear hB
  obtain ⟨xt3, xl3, xs3, xd3, rfl, ht3, hl3, hs3, hd3⟩ := hv3
  obtain ⟨at3, nt3, ct3, rfl, _, _, _⟩ := ht3.sh
  obtain ⟨al3, nl3, cl3, rfl, _, _, _⟩ := hl3.sh
  obtain ⟨as3, ns3, cs3, rfl, _, _, _⟩ := hs3.sh
  obtain ⟨ad3, nd3, cd3, rfl, _, _, _⟩ := hd3.sh
  have V3 := Lib.hid (show SV _ (.agg #[.int .i64 sc9.term, .int .i64 sc9.stamp, .int .i64 sc9.next, .slice at3 nt3 ct3, .slice al3 nl3 cl3, .slice as3 ns3 cs3, .slice ad3 nd3 cd3]) sc9 from ⟨_, _, _, _, rfl, ht3, hl3, hs3, hd3⟩)
  clear ht3 hl3 hs3 hd3
  go_upto_region 6 with fail
  obtain ⟨C9, hC9⟩ : ∃ n0, n0 = W10.heap.size := ⟨_, rfl⟩
  have HXC9HR : Hid (N < C9) := Lib.hid (by rw [hC9]; exact HR.out.lt)
  have HXC9HC : Hid ((N + 1) < C9) := Lib.hid (by rw [hC9]; exact HC.out.lt)
  have HXC9HA1 : Hid (A9 < C9) := Lib.hid (by rw [hC9]; exact HA1.out.lt)
  have HXC9HA2 : Hid ((A9 + 1) < C9) := Lib.hid (by rw [hC9]; exact HA2.out.lt)
  have HXC9HB1 : Hid (B9 < C9) := Lib.hid (by rw [hC9]; exact HB1.out.lt)
  have HLOC9 : Hid (w.heap.size ≤ C9) := Lib.hid (by have := HB.out.size; omega)
  obtain ⟨W11, hA0⟩ : ∃ W0, W0 = W10.alloc (.cells #[.int .i64 sc9.term, .int .i64 sc9.stamp, .int .i64 sc9.next, .slice at3 nt3 ct3, .slice al3 nl3 cl3, .slice as3 ns3 cs3, .slice ad3 nd3 cd3] 27) := ⟨_, rfl⟩
  have hB : Below W10.heap.size W10 W11 := by rw [hA0]; exact (Below.refl _ _).alloc (Nat.le_refl _) _
  have hS0 : W11.heap.size = C9 + 1 := by rw [hA0]; simp [← hC9]
  have HC1 := Lib.hid (show Blk W11 C9 #[.int .i64 sc9.term, .int .i64 sc9.stamp, .int .i64 sc9.next, .slice at3 nt3 ct3, .slice al3 nl3 cl3, .slice as3 ns3 cs3, .slice ad3 nd3 cd3] 27 by rw [hA0, hC9]; exact blk_new _ _ _)
  replace HB := Lib.hid (HB.out.trans (hB.mono HB.out.size))
  replace HT := Lib.hid (HT0.out.below HB.out)
  replace HL := Lib.hid (HL0.out.below HB.out)
  replace HS := Lib.hid (HS0.out.below HB.out)
  replace HD := Lib.hid (HD0.out.below HB.out)
  replace HI := Lib.hid (HI0.out.below HB.out)
  replace HR := Lib.hid (HR.out.step hB)
  replace HC := Lib.hid (HC.out.step hB)
  replace V1 := Lib.hid (V1.out.below hB)
  replace HA1 := Lib.hid (HA1.out.step hB)
  replace HA2 := Lib.hid (HA2.out.step hB)
  replace V2 := Lib.hid (V2.out.below hB)
  replace HB1 := Lib.hid (HB1.out.step hB)
  replace V3 := Lib.hid (V3.out.below hB)
  clear hB
  have HSC9 := Lib.hid hS0
  rw [← hC9, ← hA0]
  clear hA0 hC9 hS0
  have hmx := HMX.out
  have hmn := HMN.out
  have qR0 : W11.cell? ⟨N, 0, none⟩ = some (.int .i64 s.term) := cell_at HR.out 0
  have qR1 : W11.cell? ⟨N, 1, none⟩ = some (.int .i64 s.stamp) := cell_at HR.out 1
  have qR2 : W11.cell? ⟨N, 2, none⟩ = some (.int .i64 s.next) := cell_at HR.out 2
  have qR3 : W11.cell? ⟨N, 3, none⟩ = some (.slice ta tn tc) := cell_at HR.out 3
  have qR4 : W11.cell? ⟨N, 4, none⟩ = some (.slice la ln lc) := cell_at HR.out 4
  have qR5 : W11.cell? ⟨N, 5, none⟩ = some (.slice sa sn sc) := cell_at HR.out 5
  have qR6 : W11.cell? ⟨N, 6, none⟩ = some (.slice da dn dc) := cell_at HR.out 6
  have qRz : ∀ j, W11.frozen? ⟨N, j, none⟩ = false := fun j => free_at HR.out j
  have qRl : N < W11.heap.size := HR.out.lt
  go_wp2_with fail
  go_at_call 18
  go_fit (HKP.out _ _ (HSV.out _ HT.out HL.out HS.out HD.out))
  rintro e W12 ⟨v4, rfl, hv4, hB⟩
  clear qR0 qR1 qR2 qR3 qR4 qR5 qR6 qRz qRl
  replace HB := Lib.hid (HB.out.trans (hB.mono HB.out.size))
  replace HT := Lib.hid (HT0.out.below HB.out)
  replace HL := Lib.hid (HL0.out.below HB.out)
  replace HS := Lib.hid (HS0.out.below HB.out)
  replace HD := Lib.hid (HD0.out.below HB.out)
  replace HI := Lib.hid (HI0.out.below HB.out)
  replace HR := Lib.hid (HR.out.step hB)
  replace HC := Lib.hid (HC.out.step hB)
  replace V1 := Lib.hid (V1.out.below hB)
  replace HA1 := Lib.hid (HA1.out.step hB)
  replace HA2 := Lib.hid (HA2.out.step hB)
  replace V2 := Lib.hid (V2.out.below hB)
  replace HB1 := Lib.hid (HB1.out.step hB)
  replace V3 := Lib.hid (V3.out.below hB)
  replace HC1 := Lib.hid (HC1.out.step hB)
  clear hB
  clear hmx hmn
  obtain ⟨xt4, xl4, xs4, xd4, rfl, ht4, hl4, hs4, hd4⟩ := hv4
  obtain ⟨at4, nt4, ct4, rfl, _, _, _⟩ := ht4.sh
  obtain ⟨al4, nl4, cl4, rfl, _, _, _⟩ := hl4.sh
  obtain ⟨as4, ns4, cs4, rfl, _, _, _⟩ := hs4.sh
  obtain ⟨ad4, nd4, cd4, rfl, _, _, _⟩ := hd4.sh
  have V4 := Lib.hid (show SV _ (.agg #[.int .i64 sd9.term, .int .i64 sd9.stamp, .int .i64 sd9.next, .slice at4 nt4 ct4, .slice al4 nl4 cl4, .slice as4 ns4 cs4, .slice ad4 nd4 cd4]) sd9 from ⟨_, _, _, _, rfl, ht4, hl4, hs4, hd4⟩)
  clear ht4 hl4 hs4 hd4
  go_upto_region 8 with fail
  obtain ⟨D9, hD9⟩ : ∃ n0, n0 = W12.heap.size := ⟨_, rfl⟩
  have HXD9HR : Hid (N < D9) := Lib.hid (by rw [hD9]; exact HR.out.lt)
  have HXD9HC : Hid ((N + 1) < D9) := Lib.hid (by rw [hD9]; exact HC.out.lt)
  have HXD9HA1 : Hid (A9 < D9) := Lib.hid (by rw [hD9]; exact HA1.out.lt)
  have HXD9HA2 : Hid ((A9 + 1) < D9) := Lib.hid (by rw [hD9]; exact HA2.out.lt)
  have HXD9HB1 : Hid (B9 < D9) := Lib.hid (by rw [hD9]; exact HB1.out.lt)
  have HXD9HC1 : Hid (C9 < D9) := Lib.hid (by rw [hD9]; exact HC1.out.lt)
  have HLOD9 : Hid (w.heap.size ≤ D9) := Lib.hid (by have := HB.out.size; omega)
  obtain ⟨W13, hA0⟩ : ∃ W0, W0 = W12.alloc (.cells #[.int .i64 sd9.term, .int .i64 sd9.stamp, .int .i64 sd9.next, .slice at4 nt4 ct4, .slice al4 nl4 cl4, .slice as4 ns4 cs4, .slice ad4 nd4 cd4] 27) := ⟨_, rfl⟩
  have hB : Below W12.heap.size W12 W13 := by rw [hA0]; exact (Below.refl _ _).alloc (Nat.le_refl _) _
  have hS0 : W13.heap.size = D9 + 1 := by rw [hA0]; simp [← hD9]
  have HD1 := Lib.hid (show Blk W13 D9 #[.int .i64 sd9.term, .int .i64 sd9.stamp, .int .i64 sd9.next, .slice at4 nt4 ct4, .slice al4 nl4 cl4, .slice as4 ns4 cs4, .slice ad4 nd4 cd4] 27 by rw [hA0, hD9]; exact blk_new _ _ _)
  replace HB := Lib.hid (HB.out.trans (hB.mono HB.out.size))
  replace HT := Lib.hid (HT0.out.below HB.out)
  replace HL := Lib.hid (HL0.out.below HB.out)
  replace HS := Lib.hid (HS0.out.below HB.out)
  replace HD := Lib.hid (HD0.out.below HB.out)
  replace HI := Lib.hid (HI0.out.below HB.out)
  replace HR := Lib.hid (HR.out.step hB)
  replace HC := Lib.hid (HC.out.step hB)
  replace V1 := Lib.hid (V1.out.below hB)
  replace HA1 := Lib.hid (HA1.out.step hB)
  replace HA2 := Lib.hid (HA2.out.step hB)
  replace V2 := Lib.hid (V2.out.below hB)
  replace HB1 := Lib.hid (HB1.out.step hB)
  replace V3 := Lib.hid (V3.out.below hB)
  replace HC1 := Lib.hid (HC1.out.step hB)
  replace V4 := Lib.hid (V4.out.below hB)
  clear hB
  have HSD9 := Lib.hid hS0
  rw [← hD9, ← hA0]
  clear hA0 hD9 hS0
  have qA10 : W13.cell? ⟨A9, 0, none⟩ = some (.int .i64 sa9.term) := cell_at HA1.out 0
  have qA11 : W13.cell? ⟨A9, 1, none⟩ = some (.int .i64 sa9.stamp) := cell_at HA1.out 1
  have qA12 : W13.cell? ⟨A9, 2, none⟩ = some (.int .i64 sa9.next) := cell_at HA1.out 2
  have qA13 : W13.cell? ⟨A9, 3, none⟩ = some (.slice at1 nt1 ct1) := cell_at HA1.out 3
  have qA14 : W13.cell? ⟨A9, 4, none⟩ = some (.slice al1 nl1 cl1) := cell_at HA1.out 4
  have qA15 : W13.cell? ⟨A9, 5, none⟩ = some (.slice as1 ns1 cs1) := cell_at HA1.out 5
  have qA16 : W13.cell? ⟨A9, 6, none⟩ = some (.slice ad1 nd1 cd1) := cell_at HA1.out 6
  have qA1z : ∀ j, W13.frozen? ⟨A9, j, none⟩ = false := fun j => free_at HA1.out j
  have qA1l : A9 < W13.heap.size := HA1.out.lt
  go_wp2_with fail
  go_at_call 13
  go_fit (HKA.out _ _ V1.out)
  rintro e W14 ⟨rfl, hB⟩
  clear qA10 qA11 qA12 qA13 qA14 qA15 qA16 qA1z qA1l
  replace HB := Lib.hid (HB.out.trans (hB.mono HB.out.size))
  replace HT := Lib.hid (HT0.out.below HB.out)
  replace HL := Lib.hid (HL0.out.below HB.out)
  replace HS := Lib.hid (HS0.out.below HB.out)
  replace HD := Lib.hid (HD0.out.below HB.out)
  replace HI := Lib.hid (HI0.out.below HB.out)
  replace HR := Lib.hid (HR.out.step hB)
  replace HC := Lib.hid (HC.out.step hB)
  replace V1 := Lib.hid (V1.out.below hB)
  replace HA1 := Lib.hid (HA1.out.step hB)
  replace HA2 := Lib.hid (HA2.out.step hB)
  replace V2 := Lib.hid (V2.out.below hB)
  replace HB1 := Lib.hid (HB1.out.step hB)
  replace V3 := Lib.hid (V3.out.below hB)
  replace HC1 := Lib.hid (HC1.out.step hB)
  replace V4 := Lib.hid (V4.out.below hB)
  replace HD1 := Lib.hid (HD1.out.step hB)
  clear hB
  have qB10 : W14.cell? ⟨B9, 0, none⟩ = some (.int .i64 sb9.term) := cell_at HB1.out 0
  have qB11 : W14.cell? ⟨B9, 1, none⟩ = some (.int .i64 sb9.stamp) := cell_at HB1.out 1
  have qB12 : W14.cell? ⟨B9, 2, none⟩ = some (.int .i64 sb9.next) := cell_at HB1.out 2
  have qB13 : W14.cell? ⟨B9, 3, none⟩ = some (.slice at2 nt2 ct2) := cell_at HB1.out 3
  have qB14 : W14.cell? ⟨B9, 4, none⟩ = some (.slice al2 nl2 cl2) := cell_at HB1.out 4
  have qB15 : W14.cell? ⟨B9, 5, none⟩ = some (.slice as2 ns2 cs2) := cell_at HB1.out 5
  have qB16 : W14.cell? ⟨B9, 6, none⟩ = some (.slice ad2 nd2 cd2) := cell_at HB1.out 6
  have qB1z : ∀ j, W14.frozen? ⟨B9, j, none⟩ = false := fun j => free_at HB1.out j
  have qB1l : B9 < W14.heap.size := HB1.out.lt
  go_wp2_with fail
  go_at_call 13
  go_fit (HKB.out _ _ V2.out)
  rintro e W15 ⟨rfl, hB⟩
  clear qB10 qB11 qB12 qB13 qB14 qB15 qB16 qB1z qB1l
  replace HB := Lib.hid (HB.out.trans (hB.mono HB.out.size))
  replace HT := Lib.hid (HT0.out.below HB.out)
  replace HL := Lib.hid (HL0.out.below HB.out)
  replace HS := Lib.hid (HS0.out.below HB.out)
  replace HD := Lib.hid (HD0.out.below HB.out)
  replace HI := Lib.hid (HI0.out.below HB.out)
  replace HR := Lib.hid (HR.out.step hB)
  replace HC := Lib.hid (HC.out.step hB)
  replace V1 := Lib.hid (V1.out.below hB)
  replace HA1 := Lib.hid (HA1.out.step hB)
  replace HA2 := Lib.hid (HA2.out.step hB)
  replace V2 := Lib.hid (V2.out.below hB)
  replace HB1 := Lib.hid (HB1.out.step hB)
  replace V3 := Lib.hid (V3.out.below hB)
  replace HC1 := Lib.hid (HC1.out.step hB)
  replace V4 := Lib.hid (V4.out.below hB)
  replace HD1 := Lib.hid (HD1.out.step hB)
  clear hB
  have qC10 : W15.cell? ⟨C9, 0, none⟩ = some (.int .i64 sc9.term) := cell_at HC1.out 0
  have qC11 : W15.cell? ⟨C9, 1, none⟩ = some (.int .i64 sc9.stamp) := cell_at HC1.out 1
  have qC12 : W15.cell? ⟨C9, 2, none⟩ = some (.int .i64 sc9.next) := cell_at HC1.out 2
  have qC13 : W15.cell? ⟨C9, 3, none⟩ = some (.slice at3 nt3 ct3) := cell_at HC1.out 3
  have qC14 : W15.cell? ⟨C9, 4, none⟩ = some (.slice al3 nl3 cl3) := cell_at HC1.out 4
  have qC15 : W15.cell? ⟨C9, 5, none⟩ = some (.slice as3 ns3 cs3) := cell_at HC1.out 5
  have qC16 : W15.cell? ⟨C9, 6, none⟩ = some (.slice ad3 nd3 cd3) := cell_at HC1.out 6
  have qC1z : ∀ j, W15.frozen? ⟨C9, j, none⟩ = false := fun j => free_at HC1.out j
  have qC1l : C9 < W15.heap.size := HC1.out.lt
  go_wp2_with fail
  go_at_call 13
  go_fit (HKC.out _ _ V3.out)
  rintro e W16 ⟨rfl, hB⟩
  clear qC10 qC11 qC12 qC13 qC14 qC15 qC16 qC1z qC1l
  replace HB := Lib.hid (HB.out.trans (hB.mono HB.out.size))
  replace HT := Lib.hid (HT0.out.below HB.out)
  replace HL := Lib.hid (HL0.out.below HB.out)
  replace HS := Lib.hid (HS0.out.below HB.out)
  replace HD := Lib.hid (HD0.out.below HB.out)
  replace HI := Lib.hid (HI0.out.below HB.out)
  replace HR := Lib.hid (HR.out.step hB)
  replace HC := Lib.hid (HC.out.step hB)
  replace V1 := Lib.hid (V1.out.below hB)
  replace HA1 := Lib.hid (HA1.out.step hB)
  replace HA2 := Lib.hid (HA2.out.step hB)
  replace V2 := Lib.hid (V2.out.below hB)
  replace HB1 := Lib.hid (HB1.out.step hB)
  replace V3 := Lib.hid (V3.out.below hB)
  replace HC1 := Lib.hid (HC1.out.step hB)
  replace V4 := Lib.hid (V4.out.below hB)
  replace HD1 := Lib.hid (HD1.out.step hB)
  clear hB
  have qD10 : W16.cell? ⟨D9, 0, none⟩ = some (.int .i64 sd9.term) := cell_at HD1.out 0
  have qD11 : W16.cell? ⟨D9, 1, none⟩ = some (.int .i64 sd9.stamp) := cell_at HD1.out 1
  have qD12 : W16.cell? ⟨D9, 2, none⟩ = some (.int .i64 sd9.next) := cell_at HD1.out 2
  have qD13 : W16.cell? ⟨D9, 3, none⟩ = some (.slice at4 nt4 ct4) := cell_at HD1.out 3
  have qD14 : W16.cell? ⟨D9, 4, none⟩ = some (.slice al4 nl4 cl4) := cell_at HD1.out 4
  have qD15 : W16.cell? ⟨D9, 5, none⟩ = some (.slice as4 ns4 cs4) := cell_at HD1.out 5
  have qD16 : W16.cell? ⟨D9, 6, none⟩ = some (.slice ad4 nd4 cd4) := cell_at HD1.out 6
  have qD1z : ∀ j, W16.frozen? ⟨D9, j, none⟩ = false := fun j => free_at HD1.out j
  have qD1l : D9 < W16.heap.size := HD1.out.lt
  go_wp2_with fail
  go_at_call 13
  go_fit (HKD.out _ _ V4.out)
  rintro e W17 ⟨rfl, hB⟩
  clear qD10 qD11 qD12 qD13 qD14 qD15 qD16 qD1z qD1l
  replace HB := Lib.hid (HB.out.trans (hB.mono HB.out.size))
  replace HT := Lib.hid (HT0.out.below HB.out)
  replace HL := Lib.hid (HL0.out.below HB.out)
  replace HS := Lib.hid (HS0.out.below HB.out)
  replace HD := Lib.hid (HD0.out.below HB.out)
  replace HI := Lib.hid (HI0.out.below HB.out)
  replace HR := Lib.hid (HR.out.step hB)
  replace HC := Lib.hid (HC.out.step hB)
  replace V1 := Lib.hid (V1.out.below hB)
  replace HA1 := Lib.hid (HA1.out.step hB)
  replace HA2 := Lib.hid (HA2.out.step hB)
  replace V2 := Lib.hid (V2.out.below hB)
  replace HB1 := Lib.hid (HB1.out.step hB)
  replace V3 := Lib.hid (V3.out.below hB)
  replace HC1 := Lib.hid (HC1.out.step hB)
  replace V4 := Lib.hid (V4.out.below hB)
  replace HD1 := Lib.hid (HD1.out.step hB)
  clear hB
  have HSU := Lib.hid (fun i W v (h : SV W v s) => sum_any v s i W h HFW.out HVS.out)
  have HSA := Lib.hid (fun i W v (h : SV W v sa9) => sum_any v sa9 i W h HFA.out HGA.out.1)
  have HSB := Lib.hid (fun i W v (h : SV W v sb9) => sum_any v sb9 i W h HFB.out HRB.out.1)
  have HSC := Lib.hid (fun i W v (h : SV W v sc9) => sum_any v sc9 i W h HFC.out HXC.out.1)
  have HSD := Lib.hid (fun i W v (h : SV W v sd9) => sum_any v sd9 i W h HFD.out HCC.out.1)
  have HFN := Lib.hid (fun i W (h : TV W (.slice ta tn tc) s.ts) => rfind_any _ s.ts i W h)
  go_wp2_with fail
  go_loopw [13, 14, 15] (fun k _ _ wr => ∃ i : Nat, i ≤ 16 ∧ k = .int .i64 ((i : Int) + 1) ∧ Below W17.heap.size W17 wr) (fun k _ _ _ => 17 - (intOf k).toNat)
  case atStart => exact ⟨0, Nat.zero_le _, rfl, Below.refl _ _⟩
  case round =>
    obtain ⟨i, hi, rfl, hB⟩ := hrel
    have HBC := Lib.hid hB
    replace HB := Lib.hid (HB.out.trans (hB.mono HB.out.size))
    replace HT := Lib.hid (HT0.out.below HB.out)
    replace HL := Lib.hid (HL0.out.below HB.out)
    replace HS := Lib.hid (HS0.out.below HB.out)
    replace HD := Lib.hid (HD0.out.below HB.out)
    replace HI := Lib.hid (HI0.out.below HB.out)
    replace HR := Lib.hid (HR.out.step hB)
    replace HC := Lib.hid (HC.out.step hB)
    replace V1 := Lib.hid (V1.out.below hB)
    replace HA1 := Lib.hid (HA1.out.step hB)
    replace HA2 := Lib.hid (HA2.out.step hB)
    replace V2 := Lib.hid (V2.out.below hB)
    replace HB1 := Lib.hid (HB1.out.step hB)
    replace V3 := Lib.hid (V3.out.below hB)
    replace HC1 := Lib.hid (HC1.out.step hB)
    replace V4 := Lib.hid (V4.out.below hB)
    replace HD1 := Lib.hid (HD1.out.step hB)
    clear hB
    by_cases hk : i < 16
    · skip
      have b9 : (((i : Int) + 1) ≤ 16) = True := eq_true (by omega)
      obtain ⟨j, hj⟩ : ∃ j, j = (i : Int) + 1 := ⟨_, rfl⟩
      have ww5 : IntKind.i64.wrap (((i : Int) + 1) + 1) = ((i : Int) + 1) + 1 := IntWalk.i64_in _ (by omega)
      have hbd9 := HVS.out.sum_bd j
      have h1 := HGA.out.2.1 j
      have h2 := HRB.out.2 j
      have h3 := HXC.out.2 j
      have h4 := HCC.out.2 j
      have u0 := HSU.out j
      have u1 := HSA.out j
      have u2 := HSB.out j
      have u3 := HSC.out j
      have u4 := HSD.out j
      have u5 := HFN.out j
      have hsm : sumS s j = ((fndC j s.ts).getD z0).bkt + 1000 * outL s.ls j := rfl
      unfold TnE.agg at u5
      obtain ⟨y, hy⟩ : ∃ y, y = (fndC j s.ts).getD z0 := ⟨_, rfl⟩
      obtain ⟨ok, hok⟩ : ∃ b, b = (fndC j s.ts).isSome := ⟨_, rfl⟩
      rw [← hy, ← hok] at u5
      rw [← hy] at h4 hbd9 hsm
      obtain ⟨z1, hz1⟩ : ∃ n, n = sumS s j := ⟨_, rfl⟩
      rw [← hz1] at h1 h2 h3 h4 u0 hsm
      rw [h1] at u1
      obtain ⟨z2, hz2⟩ : ∃ n, n = sumS sb9 j := ⟨_, rfl⟩
      rw [← hz2] at h2 u2
      obtain ⟨z3, hz3⟩ : ∃ n, n = sumS sc9 j := ⟨_, rfl⟩
      rw [← hz3] at h3 u3
      obtain ⟨z4, hz4⟩ : ∃ n, n = sumS sd9 j := ⟨_, rfl⟩
      rw [← hz4] at h4 u4
      obtain ⟨m1, hm1⟩ : ∃ m, m = y.rate * t2 := ⟨_, rfl⟩
      have hmb : 0 ≤ m1 ∧ m1 ≤ 1048576000000 := by
        rw [hm1]
        have ha := HTB.out
        refine ⟨Int.mul_nonneg hbd9.2.2.2.2.1 ha.1, ?_⟩
        have hb := Int.mul_le_mul hbd9.2.2.2.2.2 ha.2 ha.1 (by omega)
        omega
      have wm : IntKind.i64.wrap (y.rate * t2) = m1 := (IntWalk.i64_in _ (by omega)).trans hm1.symm
      obtain ⟨m2, hm2⟩ : ∃ m, m = z1 + m1 := ⟨_, rfl⟩
      have wa : IntKind.i64.wrap (z1 + m1) = m2 := (IntWalk.i64_in _ (by omega)).trans hm2.symm
      rw [← hm1, ← hm2] at h4
      have d1 : (z1 != z1) = false := by simp
      have d2 : decide (z1 < z2) = false := decide_eq_false (by omega)
      have d3 : decide (z1 < z3) = false := decide_eq_false (by omega)
      have d4 : decide (m2 < z4) = false := decide_eq_false (by omega)
      have U0 := Lib.hid u0
      have U1 := Lib.hid u1
      have U2 := Lib.hid u2
      have U3 := Lib.hid u3
      have U4 := Lib.hid u4
      have U5 := Lib.hid u5
      rw [hj] at U0 U1 U2 U3 U4 U5
      clear u0 u1 u2 u3 u4 u5 hz1 hz2 hz3 hz4 hm1 hm2 hy hok h1 h2 h3 h4 hbd9 hsm hmb hj j
      have qR0 : wr.cell? ⟨N, 0, none⟩ = some (.int .i64 s.term) := cell_at HR.out 0
      have qR1 : wr.cell? ⟨N, 1, none⟩ = some (.int .i64 s.stamp) := cell_at HR.out 1
      have qR2 : wr.cell? ⟨N, 2, none⟩ = some (.int .i64 s.next) := cell_at HR.out 2
      have qR3 : wr.cell? ⟨N, 3, none⟩ = some (.slice ta tn tc) := cell_at HR.out 3
      have qR4 : wr.cell? ⟨N, 4, none⟩ = some (.slice la ln lc) := cell_at HR.out 4
      have qR5 : wr.cell? ⟨N, 5, none⟩ = some (.slice sa sn sc) := cell_at HR.out 5
      have qR6 : wr.cell? ⟨N, 6, none⟩ = some (.slice da dn dc) := cell_at HR.out 6
      have qRz : ∀ j, wr.frozen? ⟨N, j, none⟩ = false := fun j => free_at HR.out j
      have qRl : N < wr.heap.size := HR.out.lt
      go_wp2_with fail
      go_at_call 26
      go_fit (U5.out _ HT.out)
      rintro e W18 ⟨rfl, hB⟩
      clear qR0 qR1 qR2 qR3 qR4 qR5 qR6 qRz qRl
      replace HB := Lib.hid (HB.out.trans (hB.mono HB.out.size))
      replace HT := Lib.hid (HT0.out.below HB.out)
      replace HL := Lib.hid (HL0.out.below HB.out)
      replace HS := Lib.hid (HS0.out.below HB.out)
      replace HD := Lib.hid (HD0.out.below HB.out)
      replace HI := Lib.hid (HI0.out.below HB.out)
      replace HR := Lib.hid (HR.out.step hB)
      replace HC := Lib.hid (HC.out.step hB)
      replace V1 := Lib.hid (V1.out.below hB)
      replace HA1 := Lib.hid (HA1.out.step hB)
      replace HA2 := Lib.hid (HA2.out.step hB)
      replace V2 := Lib.hid (V2.out.below hB)
      replace HB1 := Lib.hid (HB1.out.step hB)
      replace V3 := Lib.hid (V3.out.below hB)
      replace HC1 := Lib.hid (HC1.out.step hB)
      replace V4 := Lib.hid (V4.out.below hB)
      replace HD1 := Lib.hid (HD1.out.step hB)
      replace HBC := Lib.hid (HBC.out.trans (hB.mono HBC.out.size))
      clear hB
      go_upto_region 14 with fail
      obtain ⟨T9, hT9⟩ : ∃ n0, n0 = W18.heap.size := ⟨_, rfl⟩
      have HXT9HR : Hid (N < T9) := Lib.hid (by rw [hT9]; exact HR.out.lt)
      have HXT9HC : Hid ((N + 1) < T9) := Lib.hid (by rw [hT9]; exact HC.out.lt)
      have HXT9HA1 : Hid (A9 < T9) := Lib.hid (by rw [hT9]; exact HA1.out.lt)
      have HXT9HA2 : Hid ((A9 + 1) < T9) := Lib.hid (by rw [hT9]; exact HA2.out.lt)
      have HXT9HB1 : Hid (B9 < T9) := Lib.hid (by rw [hT9]; exact HB1.out.lt)
      have HXT9HC1 : Hid (C9 < T9) := Lib.hid (by rw [hT9]; exact HC1.out.lt)
      have HXT9HD1 : Hid (D9 < T9) := Lib.hid (by rw [hT9]; exact HD1.out.lt)
      have HLOT9 : Hid (w.heap.size ≤ T9) := Lib.hid (by have := HB.out.size; omega)
      obtain ⟨W19, hA0⟩ : ∃ W0, W0 = W18.alloc (.cells #[.int .i64 y.id, .int .i64 y.rate, .int .i64 y.burst, .int .i64 y.bkt, .bool y.gone] 54) := ⟨_, rfl⟩
      have hB : Below W18.heap.size W18 W19 := by rw [hA0]; exact (Below.refl _ _).alloc (Nat.le_refl _) _
      have hS0 : W19.heap.size = T9 + 1 := by rw [hA0]; simp [← hT9]
      have HT9 := Lib.hid (show Blk W19 T9 #[.int .i64 y.id, .int .i64 y.rate, .int .i64 y.burst, .int .i64 y.bkt, .bool y.gone] 54 by rw [hA0, hT9]; exact blk_new _ _ _)
      replace HB := Lib.hid (HB.out.trans (hB.mono HB.out.size))
      replace HT := Lib.hid (HT0.out.below HB.out)
      replace HL := Lib.hid (HL0.out.below HB.out)
      replace HS := Lib.hid (HS0.out.below HB.out)
      replace HD := Lib.hid (HD0.out.below HB.out)
      replace HI := Lib.hid (HI0.out.below HB.out)
      replace HR := Lib.hid (HR.out.step hB)
      replace HC := Lib.hid (HC.out.step hB)
      replace V1 := Lib.hid (V1.out.below hB)
      replace HA1 := Lib.hid (HA1.out.step hB)
      replace HA2 := Lib.hid (HA2.out.step hB)
      replace V2 := Lib.hid (V2.out.below hB)
      replace HB1 := Lib.hid (HB1.out.step hB)
      replace V3 := Lib.hid (V3.out.below hB)
      replace HC1 := Lib.hid (HC1.out.step hB)
      replace V4 := Lib.hid (V4.out.below hB)
      replace HD1 := Lib.hid (HD1.out.step hB)
      replace HBC := Lib.hid (HBC.out.trans (hB.mono HBC.out.size))
      clear hB
      have HST9 := Lib.hid hS0
      rw [← hT9, ← hA0]
      clear hA0 hT9 hS0
      have qR0 : W19.cell? ⟨N, 0, none⟩ = some (.int .i64 s.term) := cell_at HR.out 0
      have qR1 : W19.cell? ⟨N, 1, none⟩ = some (.int .i64 s.stamp) := cell_at HR.out 1
      have qR2 : W19.cell? ⟨N, 2, none⟩ = some (.int .i64 s.next) := cell_at HR.out 2
      have qR3 : W19.cell? ⟨N, 3, none⟩ = some (.slice ta tn tc) := cell_at HR.out 3
      have qR4 : W19.cell? ⟨N, 4, none⟩ = some (.slice la ln lc) := cell_at HR.out 4
      have qR5 : W19.cell? ⟨N, 5, none⟩ = some (.slice sa sn sc) := cell_at HR.out 5
      have qR6 : W19.cell? ⟨N, 6, none⟩ = some (.slice da dn dc) := cell_at HR.out 6
      have qRz : ∀ j, W19.frozen? ⟨N, j, none⟩ = false := fun j => free_at HR.out j
      have qRl : N < W19.heap.size := HR.out.lt
      have qA10 : W19.cell? ⟨A9, 0, none⟩ = some (.int .i64 sa9.term) := cell_at HA1.out 0
      have qA11 : W19.cell? ⟨A9, 1, none⟩ = some (.int .i64 sa9.stamp) := cell_at HA1.out 1
      have qA12 : W19.cell? ⟨A9, 2, none⟩ = some (.int .i64 sa9.next) := cell_at HA1.out 2
      have qA13 : W19.cell? ⟨A9, 3, none⟩ = some (.slice at1 nt1 ct1) := cell_at HA1.out 3
      have qA14 : W19.cell? ⟨A9, 4, none⟩ = some (.slice al1 nl1 cl1) := cell_at HA1.out 4
      have qA15 : W19.cell? ⟨A9, 5, none⟩ = some (.slice as1 ns1 cs1) := cell_at HA1.out 5
      have qA16 : W19.cell? ⟨A9, 6, none⟩ = some (.slice ad1 nd1 cd1) := cell_at HA1.out 6
      have qA1z : ∀ j, W19.frozen? ⟨A9, j, none⟩ = false := fun j => free_at HA1.out j
      have qA1l : A9 < W19.heap.size := HA1.out.lt
      have qB10 : W19.cell? ⟨B9, 0, none⟩ = some (.int .i64 sb9.term) := cell_at HB1.out 0
      have qB11 : W19.cell? ⟨B9, 1, none⟩ = some (.int .i64 sb9.stamp) := cell_at HB1.out 1
      have qB12 : W19.cell? ⟨B9, 2, none⟩ = some (.int .i64 sb9.next) := cell_at HB1.out 2
      have qB13 : W19.cell? ⟨B9, 3, none⟩ = some (.slice at2 nt2 ct2) := cell_at HB1.out 3
      have qB14 : W19.cell? ⟨B9, 4, none⟩ = some (.slice al2 nl2 cl2) := cell_at HB1.out 4
      have qB15 : W19.cell? ⟨B9, 5, none⟩ = some (.slice as2 ns2 cs2) := cell_at HB1.out 5
      have qB16 : W19.cell? ⟨B9, 6, none⟩ = some (.slice ad2 nd2 cd2) := cell_at HB1.out 6
      have qB1z : ∀ j, W19.frozen? ⟨B9, j, none⟩ = false := fun j => free_at HB1.out j
      have qB1l : B9 < W19.heap.size := HB1.out.lt
      have qC10 : W19.cell? ⟨C9, 0, none⟩ = some (.int .i64 sc9.term) := cell_at HC1.out 0
      have qC11 : W19.cell? ⟨C9, 1, none⟩ = some (.int .i64 sc9.stamp) := cell_at HC1.out 1
      have qC12 : W19.cell? ⟨C9, 2, none⟩ = some (.int .i64 sc9.next) := cell_at HC1.out 2
      have qC13 : W19.cell? ⟨C9, 3, none⟩ = some (.slice at3 nt3 ct3) := cell_at HC1.out 3
      have qC14 : W19.cell? ⟨C9, 4, none⟩ = some (.slice al3 nl3 cl3) := cell_at HC1.out 4
      have qC15 : W19.cell? ⟨C9, 5, none⟩ = some (.slice as3 ns3 cs3) := cell_at HC1.out 5
      have qC16 : W19.cell? ⟨C9, 6, none⟩ = some (.slice ad3 nd3 cd3) := cell_at HC1.out 6
      have qC1z : ∀ j, W19.frozen? ⟨C9, j, none⟩ = false := fun j => free_at HC1.out j
      have qC1l : C9 < W19.heap.size := HC1.out.lt
      have qD10 : W19.cell? ⟨D9, 0, none⟩ = some (.int .i64 sd9.term) := cell_at HD1.out 0
      have qD11 : W19.cell? ⟨D9, 1, none⟩ = some (.int .i64 sd9.stamp) := cell_at HD1.out 1
      have qD12 : W19.cell? ⟨D9, 2, none⟩ = some (.int .i64 sd9.next) := cell_at HD1.out 2
      have qD13 : W19.cell? ⟨D9, 3, none⟩ = some (.slice at4 nt4 ct4) := cell_at HD1.out 3
      have qD14 : W19.cell? ⟨D9, 4, none⟩ = some (.slice al4 nl4 cl4) := cell_at HD1.out 4
      have qD15 : W19.cell? ⟨D9, 5, none⟩ = some (.slice as4 ns4 cs4) := cell_at HD1.out 5
      have qD16 : W19.cell? ⟨D9, 6, none⟩ = some (.slice ad4 nd4 cd4) := cell_at HD1.out 6
      have qD1z : ∀ j, W19.frozen? ⟨D9, j, none⟩ = false := fun j => free_at HD1.out j
      have qD1l : D9 < W19.heap.size := HD1.out.lt
      have qT90 : W19.cell? ⟨T9, 0, none⟩ = some (.int .i64 y.id) := cell_at HT9.out 0
      have qT91 : W19.cell? ⟨T9, 1, none⟩ = some (.int .i64 y.rate) := cell_at HT9.out 1
      have qT92 : W19.cell? ⟨T9, 2, none⟩ = some (.int .i64 y.burst) := cell_at HT9.out 2
      have qT93 : W19.cell? ⟨T9, 3, none⟩ = some (.int .i64 y.bkt) := cell_at HT9.out 3
      have qT94 : W19.cell? ⟨T9, 4, none⟩ = some (.bool y.gone) := cell_at HT9.out 4
      have qT9z : ∀ j, W19.frozen? ⟨T9, j, none⟩ = false := fun j => free_at HT9.out j
      have qT9l : T9 < W19.heap.size := HT9.out.lt
      go_wp2_with fail
      clear qR0 qR1 qR2 qR3 qR4 qR5 qR6 qRz qRl qA10 qA11 qA12 qA13 qA14 qA15 qA16 qA1z qA1l qB10 qB11 qB12 qB13 qB14 qB15 qB16 qB1z qB1l qC10 qC11 qC12 qC13 qC14 qC15 qC16 qC1z qC1l qD10 qD11 qD12 qD13 qD14 qD15 qD16 qD1z qD1l qT90 qT91 qT92 qT93 qT94 qT9z qT9l
      refine wp_region_held_drew (S := fun X => (X.cell? ⟨N, 0, none⟩ = some (.int .i64 s.term) ∧ X.cell? ⟨N, 1, none⟩ = some (.int .i64 s.stamp) ∧ X.cell? ⟨N, 2, none⟩ = some (.int .i64 s.next) ∧ X.cell? ⟨N, 3, none⟩ = some (.slice ta tn tc) ∧ X.cell? ⟨N, 4, none⟩ = some (.slice la ln lc) ∧ X.cell? ⟨N, 5, none⟩ = some (.slice sa sn sc) ∧ X.cell? ⟨N, 6, none⟩ = some (.slice da dn dc) ∧ N < X.heap.size) ∧ (X.cell? ⟨A9, 0, none⟩ = some (.int .i64 sa9.term) ∧ X.cell? ⟨A9, 1, none⟩ = some (.int .i64 sa9.stamp) ∧ X.cell? ⟨A9, 2, none⟩ = some (.int .i64 sa9.next) ∧ X.cell? ⟨A9, 3, none⟩ = some (.slice at1 nt1 ct1) ∧ X.cell? ⟨A9, 4, none⟩ = some (.slice al1 nl1 cl1) ∧ X.cell? ⟨A9, 5, none⟩ = some (.slice as1 ns1 cs1) ∧ X.cell? ⟨A9, 6, none⟩ = some (.slice ad1 nd1 cd1) ∧ A9 < X.heap.size) ∧ (X.cell? ⟨B9, 0, none⟩ = some (.int .i64 sb9.term) ∧ X.cell? ⟨B9, 1, none⟩ = some (.int .i64 sb9.stamp) ∧ X.cell? ⟨B9, 2, none⟩ = some (.int .i64 sb9.next) ∧ X.cell? ⟨B9, 3, none⟩ = some (.slice at2 nt2 ct2) ∧ X.cell? ⟨B9, 4, none⟩ = some (.slice al2 nl2 cl2) ∧ X.cell? ⟨B9, 5, none⟩ = some (.slice as2 ns2 cs2) ∧ X.cell? ⟨B9, 6, none⟩ = some (.slice ad2 nd2 cd2) ∧ B9 < X.heap.size) ∧ (X.cell? ⟨C9, 0, none⟩ = some (.int .i64 sc9.term) ∧ X.cell? ⟨C9, 1, none⟩ = some (.int .i64 sc9.stamp) ∧ X.cell? ⟨C9, 2, none⟩ = some (.int .i64 sc9.next) ∧ X.cell? ⟨C9, 3, none⟩ = some (.slice at3 nt3 ct3) ∧ X.cell? ⟨C9, 4, none⟩ = some (.slice al3 nl3 cl3) ∧ X.cell? ⟨C9, 5, none⟩ = some (.slice as3 ns3 cs3) ∧ X.cell? ⟨C9, 6, none⟩ = some (.slice ad3 nd3 cd3) ∧ C9 < X.heap.size) ∧ (X.cell? ⟨D9, 0, none⟩ = some (.int .i64 sd9.term) ∧ X.cell? ⟨D9, 1, none⟩ = some (.int .i64 sd9.stamp) ∧ X.cell? ⟨D9, 2, none⟩ = some (.int .i64 sd9.next) ∧ X.cell? ⟨D9, 3, none⟩ = some (.slice at4 nt4 ct4) ∧ X.cell? ⟨D9, 4, none⟩ = some (.slice al4 nl4 cl4) ∧ X.cell? ⟨D9, 5, none⟩ = some (.slice as4 ns4 cs4) ∧ X.cell? ⟨D9, 6, none⟩ = some (.slice ad4 nd4 cd4) ∧ D9 < X.heap.size) ∧ (X.cell? ⟨T9, 0, none⟩ = some (.int .i64 y.id) ∧ X.cell? ⟨T9, 1, none⟩ = some (.int .i64 y.rate) ∧ X.cell? ⟨T9, 2, none⟩ = some (.int .i64 y.burst) ∧ X.cell? ⟨T9, 3, none⟩ = some (.int .i64 y.bkt) ∧ X.cell? ⟨T9, 4, none⟩ = some (.bool y.gone) ∧ T9 < X.heap.size)) (by kernel_rfl) ⟨⟨cell_at HR.out 0, cell_at HR.out 1, cell_at HR.out 2, cell_at HR.out 3, cell_at HR.out 4, cell_at HR.out 5, cell_at HR.out 6, HR.out.lt⟩, ⟨cell_at HA1.out 0, cell_at HA1.out 1, cell_at HA1.out 2, cell_at HA1.out 3, cell_at HA1.out 4, cell_at HA1.out 5, cell_at HA1.out 6, HA1.out.lt⟩, ⟨cell_at HB1.out 0, cell_at HB1.out 1, cell_at HB1.out 2, cell_at HB1.out 3, cell_at HB1.out 4, cell_at HB1.out 5, cell_at HB1.out 6, HB1.out.lt⟩, ⟨cell_at HC1.out 0, cell_at HC1.out 1, cell_at HC1.out 2, cell_at HC1.out 3, cell_at HC1.out 4, cell_at HC1.out 5, cell_at HC1.out 6, HC1.out.lt⟩, ⟨cell_at HD1.out 0, cell_at HD1.out 1, cell_at HD1.out 2, cell_at HD1.out 3, cell_at HD1.out 4, cell_at HD1.out 5, cell_at HD1.out 6, HD1.out.lt⟩, ⟨cell_at HT9.out 0, cell_at HT9.out 1, cell_at HT9.out 2, cell_at HT9.out 3, cell_at HT9.out 4, HT9.out.lt⟩⟩ (fun hHeld => ?_)
      ((refine wpAnyH_take (i := 0) (v := ?_) (by (simp only [List.getElem?_toArray, List.getElem?_cons_succ, List.getElem?_cons_zero]); rfl) (by kernel_rfl) (by kernel_rfl) (by kernel_rfl) (by exact fun _ _ _ h => h) (Or.inl ⟨by rfl, ?_⟩) (by assumption) ?_); rotate_left; focus (intro wS hSw; (try dsimp only at hSw); go_simp; first | done | with_reducible rfl); try simp only [Act.put, List.setIfInBounds_toArray, List.set_cons_zero, List.set_cons_succ])
      ((refine wpAnyH_take (i := 1) (v := ?_) (by (simp only [List.getElem?_toArray, List.getElem?_cons_succ, List.getElem?_cons_zero]); rfl) (by kernel_rfl) (by kernel_rfl) (by kernel_rfl) (by exact fun _ _ _ h => h) (Or.inl ⟨by rfl, ?_⟩) (by assumption) ?_); rotate_left; focus (intro wS hSw; (try dsimp only at hSw); go_simp; first | done | with_reducible rfl); try simp only [Act.put, List.setIfInBounds_toArray, List.set_cons_zero, List.set_cons_succ])
      ((refine wpAnyH_take (i := 3) (v := ?_) (by (simp only [List.getElem?_toArray, List.getElem?_cons_succ, List.getElem?_cons_zero]); rfl) (by kernel_rfl) (by kernel_rfl) (by kernel_rfl) (by exact fun _ _ _ h => h) (Or.inl ⟨by rfl, ?_⟩) (by assumption) ?_); rotate_left; focus (intro wS hSw; (try dsimp only at hSw); go_simp; first | done | with_reducible rfl); try simp only [Act.put, List.setIfInBounds_toArray, List.set_cons_zero, List.set_cons_succ])
      ((refine wpAnyH_take (i := 4) (v := ?_) (by (simp only [List.getElem?_toArray, List.getElem?_cons_succ, List.getElem?_cons_zero]); rfl) (by kernel_rfl) (by kernel_rfl) (by kernel_rfl) (by exact fun _ _ _ h => h) (Or.inl ⟨by rfl, ?_⟩) (by assumption) ?_); rotate_left; focus (intro wS hSw; (try dsimp only at hSw); go_simp; first | done | with_reducible rfl); try simp only [Act.put, List.setIfInBounds_toArray, List.set_cons_zero, List.set_cons_succ])
      refine wpAnyH_ready (rs := [2]) (by kernel_rfl) (by simp) ?_
      refine AllReadyH.cons (by (simp only [List.getElem?_toArray, List.getElem?_cons_succ, List.getElem?_cons_zero]); rfl) (fun K hK => ?_) AllReadyH.nil
      go_simp
      go_fit (U1.out _ _ (V1.out.below (Below.refl _ _).drew))
      rintro e W20 ⟨rfl, hB⟩
      replace hB := below_undrew hB
      replace HB := Lib.hid (HB.out.trans (hB.mono HB.out.size))
      replace HT := Lib.hid (HT0.out.below HB.out)
      replace HL := Lib.hid (HL0.out.below HB.out)
      replace HS := Lib.hid (HS0.out.below HB.out)
      replace HD := Lib.hid (HD0.out.below HB.out)
      replace HI := Lib.hid (HI0.out.below HB.out)
      replace HR := Lib.hid (HR.out.step hB)
      replace HC := Lib.hid (HC.out.step hB)
      replace V1 := Lib.hid (V1.out.below hB)
      replace HA1 := Lib.hid (HA1.out.step hB)
      replace HA2 := Lib.hid (HA2.out.step hB)
      replace V2 := Lib.hid (V2.out.below hB)
      replace HB1 := Lib.hid (HB1.out.step hB)
      replace V3 := Lib.hid (V3.out.below hB)
      replace HC1 := Lib.hid (HC1.out.step hB)
      replace V4 := Lib.hid (V4.out.below hB)
      replace HD1 := Lib.hid (HD1.out.step hB)
      replace HBC := Lib.hid (HBC.out.trans (hB.mono HBC.out.size))
      replace HT9 := Lib.hid (HT9.out.step hB)
      go_wp2_with fail
      refine hK.out _ _ ⟨⟨cell_at HR.out 0, cell_at HR.out 1, cell_at HR.out 2, cell_at HR.out 3, cell_at HR.out 4, cell_at HR.out 5, cell_at HR.out 6, HR.out.lt⟩, ⟨cell_at HA1.out 0, cell_at HA1.out 1, cell_at HA1.out 2, cell_at HA1.out 3, cell_at HA1.out 4, cell_at HA1.out 5, cell_at HA1.out 6, HA1.out.lt⟩, ⟨cell_at HB1.out 0, cell_at HB1.out 1, cell_at HB1.out 2, cell_at HB1.out 3, cell_at HB1.out 4, cell_at HB1.out 5, cell_at HB1.out 6, HB1.out.lt⟩, ⟨cell_at HC1.out 0, cell_at HC1.out 1, cell_at HC1.out 2, cell_at HC1.out 3, cell_at HC1.out 4, cell_at HC1.out 5, cell_at HC1.out 6, HC1.out.lt⟩, ⟨cell_at HD1.out 0, cell_at HD1.out 1, cell_at HD1.out 2, cell_at HD1.out 3, cell_at HD1.out 4, cell_at HD1.out 5, cell_at HD1.out 6, HD1.out.lt⟩, ⟨cell_at HT9.out 0, cell_at HT9.out 1, cell_at HT9.out 2, cell_at HT9.out 3, cell_at HT9.out 4, HT9.out.lt⟩⟩ (fun hHeld => ?_)
      clear hK K hB
      try simp only [Act.put, List.setIfInBounds_toArray, List.set_cons_zero, List.set_cons_succ]
      refine wpAnyH_ready (rs := [5]) (by kernel_rfl) (by simp) ?_
      refine AllReadyH.cons (by (simp only [List.getElem?_toArray, List.getElem?_cons_succ, List.getElem?_cons_zero]); rfl) (fun K hK => ?_) AllReadyH.nil
      go_simp
      go_fit (U0.out _ _ (HSV.out _ HT.out HL.out HS.out HD.out))
      rintro e W21 ⟨rfl, hB⟩
      replace HB := Lib.hid (HB.out.trans (hB.mono HB.out.size))
      replace HT := Lib.hid (HT0.out.below HB.out)
      replace HL := Lib.hid (HL0.out.below HB.out)
      replace HS := Lib.hid (HS0.out.below HB.out)
      replace HD := Lib.hid (HD0.out.below HB.out)
      replace HI := Lib.hid (HI0.out.below HB.out)
      replace HR := Lib.hid (HR.out.step hB)
      replace HC := Lib.hid (HC.out.step hB)
      replace V1 := Lib.hid (V1.out.below hB)
      replace HA1 := Lib.hid (HA1.out.step hB)
      replace HA2 := Lib.hid (HA2.out.step hB)
      replace V2 := Lib.hid (V2.out.below hB)
      replace HB1 := Lib.hid (HB1.out.step hB)
      replace V3 := Lib.hid (V3.out.below hB)
      replace HC1 := Lib.hid (HC1.out.step hB)
      replace V4 := Lib.hid (V4.out.below hB)
      replace HD1 := Lib.hid (HD1.out.step hB)
      replace HBC := Lib.hid (HBC.out.trans (hB.mono HBC.out.size))
      replace HT9 := Lib.hid (HT9.out.step hB)
      go_wp2_with fail
      refine hK.out _ _ ⟨⟨cell_at HR.out 0, cell_at HR.out 1, cell_at HR.out 2, cell_at HR.out 3, cell_at HR.out 4, cell_at HR.out 5, cell_at HR.out 6, HR.out.lt⟩, ⟨cell_at HA1.out 0, cell_at HA1.out 1, cell_at HA1.out 2, cell_at HA1.out 3, cell_at HA1.out 4, cell_at HA1.out 5, cell_at HA1.out 6, HA1.out.lt⟩, ⟨cell_at HB1.out 0, cell_at HB1.out 1, cell_at HB1.out 2, cell_at HB1.out 3, cell_at HB1.out 4, cell_at HB1.out 5, cell_at HB1.out 6, HB1.out.lt⟩, ⟨cell_at HC1.out 0, cell_at HC1.out 1, cell_at HC1.out 2, cell_at HC1.out 3, cell_at HC1.out 4, cell_at HC1.out 5, cell_at HC1.out 6, HC1.out.lt⟩, ⟨cell_at HD1.out 0, cell_at HD1.out 1, cell_at HD1.out 2, cell_at HD1.out 3, cell_at HD1.out 4, cell_at HD1.out 5, cell_at HD1.out 6, HD1.out.lt⟩, ⟨cell_at HT9.out 0, cell_at HT9.out 1, cell_at HT9.out 2, cell_at HT9.out 3, cell_at HT9.out 4, HT9.out.lt⟩⟩ (fun hHeld => ?_)
      clear hK K hB
      try simp only [Act.put, List.setIfInBounds_toArray, List.set_cons_zero, List.set_cons_succ]
      ((refine wpAnyH_take (i := 6) (v := ?_) (by (simp only [List.getElem?_toArray, List.getElem?_cons_succ, List.getElem?_cons_zero]); rfl) (by kernel_rfl) (by kernel_rfl) (by kernel_rfl) (by exact fun _ _ _ h => h) (Or.inl ⟨by rfl, ?_⟩) (by assumption) ?_); rotate_left; focus (intro wS hSw; (try dsimp only at hSw); go_simp; first | done | with_reducible rfl); try simp only [Act.put, List.setIfInBounds_toArray, List.set_cons_zero, List.set_cons_succ])
      ((refine wpAnyH_take (i := 7) (v := ?_) (by (simp only [List.getElem?_toArray, List.getElem?_cons_succ, List.getElem?_cons_zero]); rfl) (by kernel_rfl) (by kernel_rfl) (by kernel_rfl) (by exact fun _ _ _ h => h) (Or.inl ⟨by rfl, ?_⟩) (by assumption) ?_); rotate_left; focus (intro wS hSw; (try dsimp only at hSw); go_simp; first | done | with_reducible rfl); try simp only [Act.put, List.setIfInBounds_toArray, List.set_cons_zero, List.set_cons_succ])
      ((refine wpAnyH_take (i := 8) (v := ?_) (by (simp only [List.getElem?_toArray, List.getElem?_cons_succ, List.getElem?_cons_zero]); rfl) (by kernel_rfl) (by kernel_rfl) (by kernel_rfl) (by exact fun _ _ _ h => h) (Or.inl ⟨by (go_simp; try rfl), ?_⟩) (by assumption) ?_); rotate_left; focus (intro wS hSw; (try dsimp only at hSw); go_simp; first | done | with_reducible rfl); try simp only [Act.put, List.setIfInBounds_toArray, List.set_cons_zero, List.set_cons_succ])
      ((refine wpAnyH_take (i := 9) (v := ?_) (by (simp only [List.getElem?_toArray, List.getElem?_cons_succ, List.getElem?_cons_zero]); rfl) (by kernel_rfl) (by kernel_rfl) (by kernel_rfl) (by exact fun _ _ _ h => h) (Or.inl ⟨by (go_simp; try rfl), ?_⟩) (by assumption) ?_); rotate_left; focus (intro wS hSw; (try dsimp only at hSw); go_simp; first | done | with_reducible rfl); try simp only [Act.put, List.setIfInBounds_toArray, List.set_cons_zero, List.set_cons_succ])
      ((refine wpAnyH_take (i := 11) (v := ?_) (by (simp only [List.getElem?_toArray, List.getElem?_cons_succ, List.getElem?_cons_zero]); rfl) (by kernel_rfl) (by kernel_rfl) (by kernel_rfl) (by exact fun _ _ _ h => h) (Or.inl ⟨by (go_simp; try rfl), ?_⟩) (by assumption) ?_); rotate_left; focus (intro wS hSw; (try dsimp only at hSw); go_simp; first | done | with_reducible rfl); try simp only [Act.put, List.setIfInBounds_toArray, List.set_cons_zero, List.set_cons_succ])
      ((refine wpAnyH_take (i := 12) (v := ?_) (by (simp only [List.getElem?_toArray, List.getElem?_cons_succ, List.getElem?_cons_zero]); rfl) (by kernel_rfl) (by kernel_rfl) (by kernel_rfl) (by exact fun _ _ _ h => h) (Or.inl ⟨by (go_simp; try rfl), ?_⟩) (by assumption) ?_); rotate_left; focus (intro wS hSw; (try dsimp only at hSw); go_simp; first | done | with_reducible rfl); try simp only [Act.put, List.setIfInBounds_toArray, List.set_cons_zero, List.set_cons_succ])
      refine wpAnyH_ready (rs := [10]) (by kernel_rfl) (by simp) ?_
      refine AllReadyH.cons (by (simp only [List.getElem?_toArray, List.getElem?_cons_succ, List.getElem?_cons_zero]); rfl) (fun K hK => ?_) AllReadyH.nil
      go_simp
      go_fit (U2.out _ _ V2.out)
      rintro e W22 ⟨rfl, hB⟩
      replace HB := Lib.hid (HB.out.trans (hB.mono HB.out.size))
      replace HT := Lib.hid (HT0.out.below HB.out)
      replace HL := Lib.hid (HL0.out.below HB.out)
      replace HS := Lib.hid (HS0.out.below HB.out)
      replace HD := Lib.hid (HD0.out.below HB.out)
      replace HI := Lib.hid (HI0.out.below HB.out)
      replace HR := Lib.hid (HR.out.step hB)
      replace HC := Lib.hid (HC.out.step hB)
      replace V1 := Lib.hid (V1.out.below hB)
      replace HA1 := Lib.hid (HA1.out.step hB)
      replace HA2 := Lib.hid (HA2.out.step hB)
      replace V2 := Lib.hid (V2.out.below hB)
      replace HB1 := Lib.hid (HB1.out.step hB)
      replace V3 := Lib.hid (V3.out.below hB)
      replace HC1 := Lib.hid (HC1.out.step hB)
      replace V4 := Lib.hid (V4.out.below hB)
      replace HD1 := Lib.hid (HD1.out.step hB)
      replace HBC := Lib.hid (HBC.out.trans (hB.mono HBC.out.size))
      replace HT9 := Lib.hid (HT9.out.step hB)
      go_wp2_with fail
      refine hK.out _ _ ⟨⟨cell_at HR.out 0, cell_at HR.out 1, cell_at HR.out 2, cell_at HR.out 3, cell_at HR.out 4, cell_at HR.out 5, cell_at HR.out 6, HR.out.lt⟩, ⟨cell_at HA1.out 0, cell_at HA1.out 1, cell_at HA1.out 2, cell_at HA1.out 3, cell_at HA1.out 4, cell_at HA1.out 5, cell_at HA1.out 6, HA1.out.lt⟩, ⟨cell_at HB1.out 0, cell_at HB1.out 1, cell_at HB1.out 2, cell_at HB1.out 3, cell_at HB1.out 4, cell_at HB1.out 5, cell_at HB1.out 6, HB1.out.lt⟩, ⟨cell_at HC1.out 0, cell_at HC1.out 1, cell_at HC1.out 2, cell_at HC1.out 3, cell_at HC1.out 4, cell_at HC1.out 5, cell_at HC1.out 6, HC1.out.lt⟩, ⟨cell_at HD1.out 0, cell_at HD1.out 1, cell_at HD1.out 2, cell_at HD1.out 3, cell_at HD1.out 4, cell_at HD1.out 5, cell_at HD1.out 6, HD1.out.lt⟩, ⟨cell_at HT9.out 0, cell_at HT9.out 1, cell_at HT9.out 2, cell_at HT9.out 3, cell_at HT9.out 4, HT9.out.lt⟩⟩ (fun hHeld => ?_)
      clear hK K hB
      try simp only [Act.put, List.setIfInBounds_toArray, List.set_cons_zero, List.set_cons_succ]
      refine wpAnyH_ready (rs := [13]) (by kernel_rfl) (by simp) ?_
      refine AllReadyH.cons (by (simp only [List.getElem?_toArray, List.getElem?_cons_succ, List.getElem?_cons_zero]); rfl) (fun K hK => ?_) AllReadyH.nil
      go_simp
      go_fit (U0.out _ _ (HSV.out _ HT.out HL.out HS.out HD.out))
      rintro e W23 ⟨rfl, hB⟩
      replace HB := Lib.hid (HB.out.trans (hB.mono HB.out.size))
      replace HT := Lib.hid (HT0.out.below HB.out)
      replace HL := Lib.hid (HL0.out.below HB.out)
      replace HS := Lib.hid (HS0.out.below HB.out)
      replace HD := Lib.hid (HD0.out.below HB.out)
      replace HI := Lib.hid (HI0.out.below HB.out)
      replace HR := Lib.hid (HR.out.step hB)
      replace HC := Lib.hid (HC.out.step hB)
      replace V1 := Lib.hid (V1.out.below hB)
      replace HA1 := Lib.hid (HA1.out.step hB)
      replace HA2 := Lib.hid (HA2.out.step hB)
      replace V2 := Lib.hid (V2.out.below hB)
      replace HB1 := Lib.hid (HB1.out.step hB)
      replace V3 := Lib.hid (V3.out.below hB)
      replace HC1 := Lib.hid (HC1.out.step hB)
      replace V4 := Lib.hid (V4.out.below hB)
      replace HD1 := Lib.hid (HD1.out.step hB)
      replace HBC := Lib.hid (HBC.out.trans (hB.mono HBC.out.size))
      replace HT9 := Lib.hid (HT9.out.step hB)
      go_wp2_with fail
      refine hK.out _ _ ⟨⟨cell_at HR.out 0, cell_at HR.out 1, cell_at HR.out 2, cell_at HR.out 3, cell_at HR.out 4, cell_at HR.out 5, cell_at HR.out 6, HR.out.lt⟩, ⟨cell_at HA1.out 0, cell_at HA1.out 1, cell_at HA1.out 2, cell_at HA1.out 3, cell_at HA1.out 4, cell_at HA1.out 5, cell_at HA1.out 6, HA1.out.lt⟩, ⟨cell_at HB1.out 0, cell_at HB1.out 1, cell_at HB1.out 2, cell_at HB1.out 3, cell_at HB1.out 4, cell_at HB1.out 5, cell_at HB1.out 6, HB1.out.lt⟩, ⟨cell_at HC1.out 0, cell_at HC1.out 1, cell_at HC1.out 2, cell_at HC1.out 3, cell_at HC1.out 4, cell_at HC1.out 5, cell_at HC1.out 6, HC1.out.lt⟩, ⟨cell_at HD1.out 0, cell_at HD1.out 1, cell_at HD1.out 2, cell_at HD1.out 3, cell_at HD1.out 4, cell_at HD1.out 5, cell_at HD1.out 6, HD1.out.lt⟩, ⟨cell_at HT9.out 0, cell_at HT9.out 1, cell_at HT9.out 2, cell_at HT9.out 3, cell_at HT9.out 4, HT9.out.lt⟩⟩ (fun hHeld => ?_)
      clear hK K hB
      try simp only [Act.put, List.setIfInBounds_toArray, List.set_cons_zero, List.set_cons_succ]
      ((refine wpAnyH_take (i := 14) (v := ?_) (by (simp only [List.getElem?_toArray, List.getElem?_cons_succ, List.getElem?_cons_zero]); rfl) (by kernel_rfl) (by kernel_rfl) (by kernel_rfl) (by exact fun _ _ _ h => h) (Or.inl ⟨by (go_simp; try rfl), ?_⟩) (by assumption) ?_); rotate_left; focus (intro wS hSw; (try dsimp only at hSw); go_simp; first | done | with_reducible rfl); try simp only [Act.put, List.setIfInBounds_toArray, List.set_cons_zero, List.set_cons_succ])
      ((refine wpAnyH_take (i := 15) (v := ?_) (by (simp only [List.getElem?_toArray, List.getElem?_cons_succ, List.getElem?_cons_zero]); rfl) (by kernel_rfl) (by kernel_rfl) (by kernel_rfl) (by exact fun _ _ _ h => h) (Or.inl ⟨by rfl, ?_⟩) (by assumption) ?_); rotate_left; focus (intro wS hSw; (try dsimp only at hSw); go_simp; first | done | with_reducible rfl); try simp only [Act.put, List.setIfInBounds_toArray, List.set_cons_zero, List.set_cons_succ])
      ((refine wpAnyH_take (i := 16) (v := ?_) (by (simp only [List.getElem?_toArray, List.getElem?_cons_succ, List.getElem?_cons_zero]); rfl) (by kernel_rfl) (by kernel_rfl) (by kernel_rfl) (by exact fun _ _ _ h => h) (Or.inl ⟨by rfl, ?_⟩) (by assumption) ?_); rotate_left; focus (intro wS hSw; (try dsimp only at hSw); go_simp; first | done | with_reducible rfl); try simp only [Act.put, List.setIfInBounds_toArray, List.set_cons_zero, List.set_cons_succ])
      ((refine wpAnyH_take (i := 17) (v := ?_) (by (simp only [List.getElem?_toArray, List.getElem?_cons_succ, List.getElem?_cons_zero]); rfl) (by kernel_rfl) (by kernel_rfl) (by kernel_rfl) (by exact fun _ _ _ h => h) (Or.inl ⟨by (go_simp; try rfl), ?_⟩) (by assumption) ?_); rotate_left; focus (intro wS hSw; (try dsimp only at hSw); go_simp; first | done | with_reducible rfl); try simp only [Act.put, List.setIfInBounds_toArray, List.set_cons_zero, List.set_cons_succ])
      ((refine wpAnyH_take (i := 18) (v := ?_) (by (simp only [List.getElem?_toArray, List.getElem?_cons_succ, List.getElem?_cons_zero]); rfl) (by kernel_rfl) (by kernel_rfl) (by kernel_rfl) (by exact fun _ _ _ h => h) (Or.inl ⟨by (go_simp; try rfl), ?_⟩) (by assumption) ?_); rotate_left; focus (intro wS hSw; (try dsimp only at hSw); go_simp; first | done | with_reducible rfl); try simp only [Act.put, List.setIfInBounds_toArray, List.set_cons_zero, List.set_cons_succ])
      ((refine wpAnyH_take (i := 20) (v := ?_) (by (simp only [List.getElem?_toArray, List.getElem?_cons_succ, List.getElem?_cons_zero]); rfl) (by kernel_rfl) (by kernel_rfl) (by kernel_rfl) (by exact fun _ _ _ h => h) (Or.inl ⟨by (go_simp; try rfl), ?_⟩) (by assumption) ?_); rotate_left; focus (intro wS hSw; (try dsimp only at hSw); go_simp; first | done | with_reducible rfl); try simp only [Act.put, List.setIfInBounds_toArray, List.set_cons_zero, List.set_cons_succ])
      ((refine wpAnyH_take (i := 21) (v := ?_) (by (simp only [List.getElem?_toArray, List.getElem?_cons_succ, List.getElem?_cons_zero]); rfl) (by kernel_rfl) (by kernel_rfl) (by kernel_rfl) (by exact fun _ _ _ h => h) (Or.inl ⟨by (go_simp; try rfl), ?_⟩) (by assumption) ?_); rotate_left; focus (intro wS hSw; (try dsimp only at hSw); go_simp; first | done | with_reducible rfl); try simp only [Act.put, List.setIfInBounds_toArray, List.set_cons_zero, List.set_cons_succ])
      refine wpAnyH_ready (rs := [19]) (by kernel_rfl) (by simp) ?_
      refine AllReadyH.cons (by (simp only [List.getElem?_toArray, List.getElem?_cons_succ, List.getElem?_cons_zero]); rfl) (fun K hK => ?_) AllReadyH.nil
      go_simp
      go_fit (U3.out _ _ V3.out)
      rintro e W24 ⟨rfl, hB⟩
      replace HB := Lib.hid (HB.out.trans (hB.mono HB.out.size))
      replace HT := Lib.hid (HT0.out.below HB.out)
      replace HL := Lib.hid (HL0.out.below HB.out)
      replace HS := Lib.hid (HS0.out.below HB.out)
      replace HD := Lib.hid (HD0.out.below HB.out)
      replace HI := Lib.hid (HI0.out.below HB.out)
      replace HR := Lib.hid (HR.out.step hB)
      replace HC := Lib.hid (HC.out.step hB)
      replace V1 := Lib.hid (V1.out.below hB)
      replace HA1 := Lib.hid (HA1.out.step hB)
      replace HA2 := Lib.hid (HA2.out.step hB)
      replace V2 := Lib.hid (V2.out.below hB)
      replace HB1 := Lib.hid (HB1.out.step hB)
      replace V3 := Lib.hid (V3.out.below hB)
      replace HC1 := Lib.hid (HC1.out.step hB)
      replace V4 := Lib.hid (V4.out.below hB)
      replace HD1 := Lib.hid (HD1.out.step hB)
      replace HBC := Lib.hid (HBC.out.trans (hB.mono HBC.out.size))
      replace HT9 := Lib.hid (HT9.out.step hB)
      go_wp2_with fail
      refine hK.out _ _ ⟨⟨cell_at HR.out 0, cell_at HR.out 1, cell_at HR.out 2, cell_at HR.out 3, cell_at HR.out 4, cell_at HR.out 5, cell_at HR.out 6, HR.out.lt⟩, ⟨cell_at HA1.out 0, cell_at HA1.out 1, cell_at HA1.out 2, cell_at HA1.out 3, cell_at HA1.out 4, cell_at HA1.out 5, cell_at HA1.out 6, HA1.out.lt⟩, ⟨cell_at HB1.out 0, cell_at HB1.out 1, cell_at HB1.out 2, cell_at HB1.out 3, cell_at HB1.out 4, cell_at HB1.out 5, cell_at HB1.out 6, HB1.out.lt⟩, ⟨cell_at HC1.out 0, cell_at HC1.out 1, cell_at HC1.out 2, cell_at HC1.out 3, cell_at HC1.out 4, cell_at HC1.out 5, cell_at HC1.out 6, HC1.out.lt⟩, ⟨cell_at HD1.out 0, cell_at HD1.out 1, cell_at HD1.out 2, cell_at HD1.out 3, cell_at HD1.out 4, cell_at HD1.out 5, cell_at HD1.out 6, HD1.out.lt⟩, ⟨cell_at HT9.out 0, cell_at HT9.out 1, cell_at HT9.out 2, cell_at HT9.out 3, cell_at HT9.out 4, HT9.out.lt⟩⟩ (fun hHeld => ?_)
      clear hK K hB
      try simp only [Act.put, List.setIfInBounds_toArray, List.set_cons_zero, List.set_cons_succ]
      refine wpAnyH_ready (rs := [22]) (by kernel_rfl) (by simp) ?_
      refine AllReadyH.cons (by (simp only [List.getElem?_toArray, List.getElem?_cons_succ, List.getElem?_cons_zero]); rfl) (fun K hK => ?_) AllReadyH.nil
      go_simp
      go_fit (U0.out _ _ (HSV.out _ HT.out HL.out HS.out HD.out))
      rintro e W25 ⟨rfl, hB⟩
      replace HB := Lib.hid (HB.out.trans (hB.mono HB.out.size))
      replace HT := Lib.hid (HT0.out.below HB.out)
      replace HL := Lib.hid (HL0.out.below HB.out)
      replace HS := Lib.hid (HS0.out.below HB.out)
      replace HD := Lib.hid (HD0.out.below HB.out)
      replace HI := Lib.hid (HI0.out.below HB.out)
      replace HR := Lib.hid (HR.out.step hB)
      replace HC := Lib.hid (HC.out.step hB)
      replace V1 := Lib.hid (V1.out.below hB)
      replace HA1 := Lib.hid (HA1.out.step hB)
      replace HA2 := Lib.hid (HA2.out.step hB)
      replace V2 := Lib.hid (V2.out.below hB)
      replace HB1 := Lib.hid (HB1.out.step hB)
      replace V3 := Lib.hid (V3.out.below hB)
      replace HC1 := Lib.hid (HC1.out.step hB)
      replace V4 := Lib.hid (V4.out.below hB)
      replace HD1 := Lib.hid (HD1.out.step hB)
      replace HBC := Lib.hid (HBC.out.trans (hB.mono HBC.out.size))
      replace HT9 := Lib.hid (HT9.out.step hB)
      go_wp2_with fail
      refine hK.out _ _ ⟨⟨cell_at HR.out 0, cell_at HR.out 1, cell_at HR.out 2, cell_at HR.out 3, cell_at HR.out 4, cell_at HR.out 5, cell_at HR.out 6, HR.out.lt⟩, ⟨cell_at HA1.out 0, cell_at HA1.out 1, cell_at HA1.out 2, cell_at HA1.out 3, cell_at HA1.out 4, cell_at HA1.out 5, cell_at HA1.out 6, HA1.out.lt⟩, ⟨cell_at HB1.out 0, cell_at HB1.out 1, cell_at HB1.out 2, cell_at HB1.out 3, cell_at HB1.out 4, cell_at HB1.out 5, cell_at HB1.out 6, HB1.out.lt⟩, ⟨cell_at HC1.out 0, cell_at HC1.out 1, cell_at HC1.out 2, cell_at HC1.out 3, cell_at HC1.out 4, cell_at HC1.out 5, cell_at HC1.out 6, HC1.out.lt⟩, ⟨cell_at HD1.out 0, cell_at HD1.out 1, cell_at HD1.out 2, cell_at HD1.out 3, cell_at HD1.out 4, cell_at HD1.out 5, cell_at HD1.out 6, HD1.out.lt⟩, ⟨cell_at HT9.out 0, cell_at HT9.out 1, cell_at HT9.out 2, cell_at HT9.out 3, cell_at HT9.out 4, HT9.out.lt⟩⟩ (fun hHeld => ?_)
      clear hK K hB
      try simp only [Act.put, List.setIfInBounds_toArray, List.set_cons_zero, List.set_cons_succ]
      ((refine wpAnyH_take (i := 23) (v := ?_) (by (simp only [List.getElem?_toArray, List.getElem?_cons_succ, List.getElem?_cons_zero]); rfl) (by kernel_rfl) (by kernel_rfl) (by kernel_rfl) (by exact fun _ _ _ h => h) (Or.inl ⟨by (go_simp; try rfl), ?_⟩) (by assumption) ?_); rotate_left; focus (intro wS hSw; (try dsimp only at hSw); go_simp; first | done | with_reducible rfl); try simp only [Act.put, List.setIfInBounds_toArray, List.set_cons_zero, List.set_cons_succ])
      ((refine wpAnyH_take (i := 24) (v := ?_) (by (simp only [List.getElem?_toArray, List.getElem?_cons_succ, List.getElem?_cons_zero]); rfl) (by kernel_rfl) (by kernel_rfl) (by kernel_rfl) (by exact fun _ _ _ h => h) (Or.inl ⟨by rfl, ?_⟩) (by assumption) ?_); rotate_left; focus (intro wS hSw; (try dsimp only at hSw); go_simp; first | done | with_reducible rfl); try simp only [Act.put, List.setIfInBounds_toArray, List.set_cons_zero, List.set_cons_succ])
      ((refine wpAnyH_take (i := 25) (v := ?_) (by (simp only [List.getElem?_toArray, List.getElem?_cons_succ, List.getElem?_cons_zero]); rfl) (by kernel_rfl) (by kernel_rfl) (by kernel_rfl) (by exact fun _ _ _ h => h) (Or.inl ⟨by rfl, ?_⟩) (by assumption) ?_); rotate_left; focus (intro wS hSw; (try dsimp only at hSw); go_simp; first | done | with_reducible rfl); try simp only [Act.put, List.setIfInBounds_toArray, List.set_cons_zero, List.set_cons_succ])
      ((refine wpAnyH_take (i := 26) (v := ?_) (by (simp only [List.getElem?_toArray, List.getElem?_cons_succ, List.getElem?_cons_zero]); rfl) (by kernel_rfl) (by kernel_rfl) (by kernel_rfl) (by exact fun _ _ _ h => h) (Or.inl ⟨by (go_simp; try rfl), ?_⟩) (by assumption) ?_); rotate_left; focus (intro wS hSw; (try dsimp only at hSw); go_simp; first | done | with_reducible rfl); try simp only [Act.put, List.setIfInBounds_toArray, List.set_cons_zero, List.set_cons_succ])
      ((refine wpAnyH_take (i := 27) (v := ?_) (by (simp only [List.getElem?_toArray, List.getElem?_cons_succ, List.getElem?_cons_zero]); rfl) (by kernel_rfl) (by kernel_rfl) (by kernel_rfl) (by exact fun _ _ _ h => h) (Or.inl ⟨by (go_simp; try rfl), ?_⟩) (by assumption) ?_); rotate_left; focus (intro wS hSw; (try dsimp only at hSw); go_simp; first | done | with_reducible rfl); try simp only [Act.put, List.setIfInBounds_toArray, List.set_cons_zero, List.set_cons_succ])
      ((refine wpAnyH_take (i := 29) (v := ?_) (by (simp only [List.getElem?_toArray, List.getElem?_cons_succ, List.getElem?_cons_zero]); rfl) (by kernel_rfl) (by kernel_rfl) (by kernel_rfl) (by exact fun _ _ _ h => h) (Or.inl ⟨by (go_simp; try rfl), ?_⟩) (by assumption) ?_); rotate_left; focus (intro wS hSw; (try dsimp only at hSw); go_simp; first | done | with_reducible rfl); try simp only [Act.put, List.setIfInBounds_toArray, List.set_cons_zero, List.set_cons_succ])
      ((refine wpAnyH_take (i := 30) (v := ?_) (by (simp only [List.getElem?_toArray, List.getElem?_cons_succ, List.getElem?_cons_zero]); rfl) (by kernel_rfl) (by kernel_rfl) (by kernel_rfl) (by exact fun _ _ _ h => h) (Or.inl ⟨by (go_simp; try rfl), ?_⟩) (by assumption) ?_); rotate_left; focus (intro wS hSw; (try dsimp only at hSw); go_simp; first | done | with_reducible rfl); try simp only [Act.put, List.setIfInBounds_toArray, List.set_cons_zero, List.set_cons_succ])
      ((refine wpAnyH_take (i := 32) (v := ?_) (by (simp only [List.getElem?_toArray, List.getElem?_cons_succ, List.getElem?_cons_zero]); rfl) (by kernel_rfl) (by kernel_rfl) (by kernel_rfl) (by exact fun _ _ _ h => h) (Or.inl ⟨by (go_simp; try rfl), ?_⟩) (by assumption) ?_); rotate_left; focus (intro wS hSw; (try dsimp only at hSw); go_simp; first | done | with_reducible rfl); try simp only [Act.put, List.setIfInBounds_toArray, List.set_cons_zero, List.set_cons_succ])
      ((refine wpAnyH_take (i := 33) (v := ?_) (by (simp only [List.getElem?_toArray, List.getElem?_cons_succ, List.getElem?_cons_zero]); rfl) (by kernel_rfl) (by kernel_rfl) (by kernel_rfl) (by exact fun _ _ _ h => h) (Or.inl ⟨by (go_simp; try rfl), ?_⟩) (by assumption) ?_); rotate_left; focus (intro wS hSw; (try dsimp only at hSw); go_simp; first | done | with_reducible rfl); try simp only [Act.put, List.setIfInBounds_toArray, List.set_cons_zero, List.set_cons_succ])
      ((refine wpAnyH_take (i := 34) (v := ?_) (by (simp only [List.getElem?_toArray, List.getElem?_cons_succ, List.getElem?_cons_zero]); rfl) (by kernel_rfl) (by kernel_rfl) (by kernel_rfl) (by exact fun _ _ _ h => h) (Or.inl ⟨by (go_simp; try rfl), ?_⟩) (by assumption) ?_); rotate_left; focus (intro wS hSw; (try dsimp only at hSw); go_simp; first | done | with_reducible rfl); try simp only [Act.put, List.setIfInBounds_toArray, List.set_cons_zero, List.set_cons_succ])
      ((refine wpAnyH_take (i := 35) (v := ?_) (by (simp only [List.getElem?_toArray, List.getElem?_cons_succ, List.getElem?_cons_zero]); rfl) (by kernel_rfl) (by kernel_rfl) (by kernel_rfl) (by exact fun _ _ _ h => h) (Or.inl ⟨by (go_simp; try rfl), ?_⟩) (by assumption) ?_); rotate_left; focus (intro wS hSw; (try dsimp only at hSw); go_simp; first | done | with_reducible rfl); try simp only [Act.put, List.setIfInBounds_toArray, List.set_cons_zero, List.set_cons_succ])
      refine wpAnyH_ready (rs := [28]) (by kernel_rfl) (by simp) ?_
      refine AllReadyH.cons (by (simp only [List.getElem?_toArray, List.getElem?_cons_succ, List.getElem?_cons_zero]); rfl) (fun K hK => ?_) AllReadyH.nil
      go_simp
      go_fit (U4.out _ _ V4.out)
      rintro e W26 ⟨rfl, hB⟩
      replace HB := Lib.hid (HB.out.trans (hB.mono HB.out.size))
      replace HT := Lib.hid (HT0.out.below HB.out)
      replace HL := Lib.hid (HL0.out.below HB.out)
      replace HS := Lib.hid (HS0.out.below HB.out)
      replace HD := Lib.hid (HD0.out.below HB.out)
      replace HI := Lib.hid (HI0.out.below HB.out)
      replace HR := Lib.hid (HR.out.step hB)
      replace HC := Lib.hid (HC.out.step hB)
      replace V1 := Lib.hid (V1.out.below hB)
      replace HA1 := Lib.hid (HA1.out.step hB)
      replace HA2 := Lib.hid (HA2.out.step hB)
      replace V2 := Lib.hid (V2.out.below hB)
      replace HB1 := Lib.hid (HB1.out.step hB)
      replace V3 := Lib.hid (V3.out.below hB)
      replace HC1 := Lib.hid (HC1.out.step hB)
      replace V4 := Lib.hid (V4.out.below hB)
      replace HD1 := Lib.hid (HD1.out.step hB)
      replace HBC := Lib.hid (HBC.out.trans (hB.mono HBC.out.size))
      replace HT9 := Lib.hid (HT9.out.step hB)
      go_wp2_with fail
      refine hK.out _ _ ⟨⟨cell_at HR.out 0, cell_at HR.out 1, cell_at HR.out 2, cell_at HR.out 3, cell_at HR.out 4, cell_at HR.out 5, cell_at HR.out 6, HR.out.lt⟩, ⟨cell_at HA1.out 0, cell_at HA1.out 1, cell_at HA1.out 2, cell_at HA1.out 3, cell_at HA1.out 4, cell_at HA1.out 5, cell_at HA1.out 6, HA1.out.lt⟩, ⟨cell_at HB1.out 0, cell_at HB1.out 1, cell_at HB1.out 2, cell_at HB1.out 3, cell_at HB1.out 4, cell_at HB1.out 5, cell_at HB1.out 6, HB1.out.lt⟩, ⟨cell_at HC1.out 0, cell_at HC1.out 1, cell_at HC1.out 2, cell_at HC1.out 3, cell_at HC1.out 4, cell_at HC1.out 5, cell_at HC1.out 6, HC1.out.lt⟩, ⟨cell_at HD1.out 0, cell_at HD1.out 1, cell_at HD1.out 2, cell_at HD1.out 3, cell_at HD1.out 4, cell_at HD1.out 5, cell_at HD1.out 6, HD1.out.lt⟩, ⟨cell_at HT9.out 0, cell_at HT9.out 1, cell_at HT9.out 2, cell_at HT9.out 3, cell_at HT9.out 4, HT9.out.lt⟩⟩ (fun hHeld => ?_)
      clear hK K hB
      try simp only [Act.put, List.setIfInBounds_toArray, List.set_cons_zero, List.set_cons_succ]
      refine wpAnyH_ready (rs := [31]) (by kernel_rfl) (by simp) ?_
      refine AllReadyH.cons (by (simp only [List.getElem?_toArray, List.getElem?_cons_succ, List.getElem?_cons_zero]); rfl) (fun K hK => ?_) AllReadyH.nil
      go_simp
      go_fit (U0.out _ _ (HSV.out _ HT.out HL.out HS.out HD.out))
      rintro e W27 ⟨rfl, hB⟩
      replace HB := Lib.hid (HB.out.trans (hB.mono HB.out.size))
      replace HT := Lib.hid (HT0.out.below HB.out)
      replace HL := Lib.hid (HL0.out.below HB.out)
      replace HS := Lib.hid (HS0.out.below HB.out)
      replace HD := Lib.hid (HD0.out.below HB.out)
      replace HI := Lib.hid (HI0.out.below HB.out)
      replace HR := Lib.hid (HR.out.step hB)
      replace HC := Lib.hid (HC.out.step hB)
      replace V1 := Lib.hid (V1.out.below hB)
      replace HA1 := Lib.hid (HA1.out.step hB)
      replace HA2 := Lib.hid (HA2.out.step hB)
      replace V2 := Lib.hid (V2.out.below hB)
      replace HB1 := Lib.hid (HB1.out.step hB)
      replace V3 := Lib.hid (V3.out.below hB)
      replace HC1 := Lib.hid (HC1.out.step hB)
      replace V4 := Lib.hid (V4.out.below hB)
      replace HD1 := Lib.hid (HD1.out.step hB)
      replace HBC := Lib.hid (HBC.out.trans (hB.mono HBC.out.size))
      replace HT9 := Lib.hid (HT9.out.step hB)
      go_wp2_with fail
      refine hK.out _ _ ⟨⟨cell_at HR.out 0, cell_at HR.out 1, cell_at HR.out 2, cell_at HR.out 3, cell_at HR.out 4, cell_at HR.out 5, cell_at HR.out 6, HR.out.lt⟩, ⟨cell_at HA1.out 0, cell_at HA1.out 1, cell_at HA1.out 2, cell_at HA1.out 3, cell_at HA1.out 4, cell_at HA1.out 5, cell_at HA1.out 6, HA1.out.lt⟩, ⟨cell_at HB1.out 0, cell_at HB1.out 1, cell_at HB1.out 2, cell_at HB1.out 3, cell_at HB1.out 4, cell_at HB1.out 5, cell_at HB1.out 6, HB1.out.lt⟩, ⟨cell_at HC1.out 0, cell_at HC1.out 1, cell_at HC1.out 2, cell_at HC1.out 3, cell_at HC1.out 4, cell_at HC1.out 5, cell_at HC1.out 6, HC1.out.lt⟩, ⟨cell_at HD1.out 0, cell_at HD1.out 1, cell_at HD1.out 2, cell_at HD1.out 3, cell_at HD1.out 4, cell_at HD1.out 5, cell_at HD1.out 6, HD1.out.lt⟩, ⟨cell_at HT9.out 0, cell_at HT9.out 1, cell_at HT9.out 2, cell_at HT9.out 3, cell_at HT9.out 4, HT9.out.lt⟩⟩ (fun hHeld => ?_)
      clear hK K hB
      try simp only [Act.put, List.setIfInBounds_toArray, List.set_cons_zero, List.set_cons_succ]
      ((refine wpAnyH_take (i := 36) (v := ?_) (by (simp only [List.getElem?_toArray, List.getElem?_cons_succ, List.getElem?_cons_zero]); rfl) (by kernel_rfl) (by kernel_rfl) (by kernel_rfl) (by exact fun _ _ _ h => h) (Or.inl ⟨by (go_simp; try rfl), ?_⟩) (by assumption) ?_); rotate_left; focus (intro wS hSw; (try dsimp only at hSw); go_simp; first | done | with_reducible rfl); try simp only [Act.put, List.setIfInBounds_toArray, List.set_cons_zero, List.set_cons_succ])
      ((refine wpAnyH_take (i := 37) (v := ?_) (by (simp only [List.getElem?_toArray, List.getElem?_cons_succ, List.getElem?_cons_zero]); rfl) (by kernel_rfl) (by kernel_rfl) (by kernel_rfl) (by exact fun _ _ _ h => h) (Or.inl ⟨by (go_simp; try rfl), ?_⟩) (by assumption) ?_); rotate_left; focus (intro wS hSw; (try dsimp only at hSw); go_simp; first | done | with_reducible rfl); try simp only [Act.put, List.setIfInBounds_toArray, List.set_cons_zero, List.set_cons_succ])
      ((refine wpAnyH_take (i := 38) (v := ?_) (by (simp only [List.getElem?_toArray, List.getElem?_cons_succ, List.getElem?_cons_zero]); rfl) (by kernel_rfl) (by kernel_rfl) (by kernel_rfl) (by exact fun _ _ _ h => h) (Or.inl ⟨by rfl, ?_⟩) (by assumption) ?_); rotate_left; focus (intro wS hSw; (try dsimp only at hSw); go_simp; first | done | with_reducible rfl); try simp only [Act.put, List.setIfInBounds_toArray, List.set_cons_zero, List.set_cons_succ])
      refine wpAnyH_done (by kernel_rfl) ?_ _
      try simp only [Act.put, List.setIfInBounds_toArray, List.set_cons_zero, List.set_cons_succ]
      go_wp2_with fail
      go_roundw
      case rel => exact ⟨i + 1, by omega, by go_num, HBC.out⟩
      case measure => first | (simp [intOf]; done) | (simp [intOf]; omega)
    · skip
      have b9 : (((i : Int) + 1) ≤ 16) = False := eq_false (by omega)
      have HOA := Lib.hid (fun W v (h : SV W v sa9) => rout_any v sa9 te W h HFA.out HGA.out.1.size)
      have HOS := Lib.hid (fun W v (h : SV W v s) => rout_any v s te W h HFW.out HVS.out.size)
      have hga := HGA.out.2.2
      have hbs := HVS.out.sum_bd te
      obtain ⟨oa, hoa⟩ : ∃ n, n = outL sa9.ls te := ⟨_, rfl⟩
      obtain ⟨ob, hob⟩ : ∃ n, n = outL s.ls te := ⟨_, rfl⟩
      have hba := HGA.out.1.sum_bd te
      rw [← hoa] at HOA hga hba
      rw [← hob] at HOS hga hbs
      clear hoa hob
      have qR0 : wr.cell? ⟨N, 0, none⟩ = some (.int .i64 s.term) := cell_at HR.out 0
      have qR1 : wr.cell? ⟨N, 1, none⟩ = some (.int .i64 s.stamp) := cell_at HR.out 1
      have qR2 : wr.cell? ⟨N, 2, none⟩ = some (.int .i64 s.next) := cell_at HR.out 2
      have qR3 : wr.cell? ⟨N, 3, none⟩ = some (.slice ta tn tc) := cell_at HR.out 3
      have qR4 : wr.cell? ⟨N, 4, none⟩ = some (.slice la ln lc) := cell_at HR.out 4
      have qR5 : wr.cell? ⟨N, 5, none⟩ = some (.slice sa sn sc) := cell_at HR.out 5
      have qR6 : wr.cell? ⟨N, 6, none⟩ = some (.slice da dn dc) := cell_at HR.out 6
      have qRz : ∀ j, wr.frozen? ⟨N, j, none⟩ = false := fun j => free_at HR.out j
      have qRl : N < wr.heap.size := HR.out.lt
      have qA10 : wr.cell? ⟨A9, 0, none⟩ = some (.int .i64 sa9.term) := cell_at HA1.out 0
      have qA11 : wr.cell? ⟨A9, 1, none⟩ = some (.int .i64 sa9.stamp) := cell_at HA1.out 1
      have qA12 : wr.cell? ⟨A9, 2, none⟩ = some (.int .i64 sa9.next) := cell_at HA1.out 2
      have qA13 : wr.cell? ⟨A9, 3, none⟩ = some (.slice at1 nt1 ct1) := cell_at HA1.out 3
      have qA14 : wr.cell? ⟨A9, 4, none⟩ = some (.slice al1 nl1 cl1) := cell_at HA1.out 4
      have qA15 : wr.cell? ⟨A9, 5, none⟩ = some (.slice as1 ns1 cs1) := cell_at HA1.out 5
      have qA16 : wr.cell? ⟨A9, 6, none⟩ = some (.slice ad1 nd1 cd1) := cell_at HA1.out 6
      have qA1z : ∀ j, wr.frozen? ⟨A9, j, none⟩ = false := fun j => free_at HA1.out j
      have qA1l : A9 < wr.heap.size := HA1.out.lt
      have qA20 : wr.cell? ⟨(A9 + 1), 0, none⟩ = some (.int .i64 ge) := cell_at HA2.out 0
      have qA21 : wr.cell? ⟨(A9 + 1), 1, none⟩ = some (.int .i64 r9) := cell_at HA2.out 1
      have qA22 : wr.cell? ⟨(A9 + 1), 2, none⟩ = some (.int .i64 q9) := cell_at HA2.out 2
      have qA23 : wr.cell? ⟨(A9 + 1), 3, none⟩ = some (.int .i64 l9) := cell_at HA2.out 3
      have qA24 : wr.cell? ⟨(A9 + 1), 4, none⟩ = some (.int .i64 z9) := cell_at HA2.out 4
      have qA2z : ∀ j, wr.frozen? ⟨(A9 + 1), j, none⟩ = false := fun j => free_at HA2.out j
      have qA2l : (A9 + 1) < wr.heap.size := HA2.out.lt
      have qC0 : wr.cell? ⟨(N + 1), 0, none⟩ = some (.int .i8 kd) := cell_at HC.out 0
      have qC1 : wr.cell? ⟨(N + 1), 1, none⟩ = some (.int .i64 cli) := cell_at HC.out 1
      have qC2 : wr.cell? ⟨(N + 1), 2, none⟩ = some (.int .i64 nu) := cell_at HC.out 2
      have qC3 : wr.cell? ⟨(N + 1), 3, none⟩ = some (.int .i64 te) := cell_at HC.out 3
      have qC4 : wr.cell? ⟨(N + 1), 4, none⟩ = some (.int .i64 ra) := cell_at HC.out 4
      have qC5 : wr.cell? ⟨(N + 1), 5, none⟩ = some (.int .i64 bu) := cell_at HC.out 5
      have qC6 : wr.cell? ⟨(N + 1), 6, none⟩ = some (.int .i64 sh) := cell_at HC.out 6
      have qC7 : wr.cell? ⟨(N + 1), 7, none⟩ = some (.int .i64 ep) := cell_at HC.out 7
      have qC8 : wr.cell? ⟨(N + 1), 8, none⟩ = some (.int .i64 le) := cell_at HC.out 8
      have qC9 : wr.cell? ⟨(N + 1), 9, none⟩ = some (.int .i64 sz) := cell_at HC.out 9
      have qC10 : wr.cell? ⟨(N + 1), 10, none⟩ = some (.int .i64 sp) := cell_at HC.out 10
      have qC11 : wr.cell? ⟨(N + 1), 11, none⟩ = some (.bool cl) := cell_at HC.out 11
      have qC12 : wr.cell? ⟨(N + 1), 12, none⟩ = some (.slice ia iN ic) := cell_at HC.out 12
      have qCz : ∀ j, wr.frozen? ⟨(N + 1), j, none⟩ = false := fun j => free_at HC.out j
      have qCl : (N + 1) < wr.heap.size := HC.out.lt
      go_wp2_with fail
      by_cases hz : ge = 0
      · skip
        have e1 : oa = ob + sz := hga hz
        have d1 : (ge != 0) = false := by simp [hz]
        have wz : IntKind.i64.wrap (ob + sz) = oa := (IntWalk.i64_in _ (by omega)).trans e1.symm
        have d2 : (oa == oa) = true := by simp
        clear e1
        clear qR0 qR1 qR2 qR3 qR4 qR5 qR6 qRz qRl qA10 qA11 qA12 qA13 qA14 qA15 qA16 qA1z qA1l qA20 qA21 qA22 qA23 qA24 qA2z qA2l qC0 qC1 qC2 qC3 qC4 qC5 qC6 qC7 qC8 qC9 qC10 qC11 qC12 qCz qCl
        refine wp_region_held_drew (S := fun X => (X.cell? ⟨N, 0, none⟩ = some (.int .i64 s.term) ∧ X.cell? ⟨N, 1, none⟩ = some (.int .i64 s.stamp) ∧ X.cell? ⟨N, 2, none⟩ = some (.int .i64 s.next) ∧ X.cell? ⟨N, 3, none⟩ = some (.slice ta tn tc) ∧ X.cell? ⟨N, 4, none⟩ = some (.slice la ln lc) ∧ X.cell? ⟨N, 5, none⟩ = some (.slice sa sn sc) ∧ X.cell? ⟨N, 6, none⟩ = some (.slice da dn dc) ∧ N < X.heap.size) ∧ (X.cell? ⟨A9, 0, none⟩ = some (.int .i64 sa9.term) ∧ X.cell? ⟨A9, 1, none⟩ = some (.int .i64 sa9.stamp) ∧ X.cell? ⟨A9, 2, none⟩ = some (.int .i64 sa9.next) ∧ X.cell? ⟨A9, 3, none⟩ = some (.slice at1 nt1 ct1) ∧ X.cell? ⟨A9, 4, none⟩ = some (.slice al1 nl1 cl1) ∧ X.cell? ⟨A9, 5, none⟩ = some (.slice as1 ns1 cs1) ∧ X.cell? ⟨A9, 6, none⟩ = some (.slice ad1 nd1 cd1) ∧ A9 < X.heap.size) ∧ (X.cell? ⟨(A9 + 1), 0, none⟩ = some (.int .i64 ge) ∧ X.cell? ⟨(A9 + 1), 1, none⟩ = some (.int .i64 r9) ∧ X.cell? ⟨(A9 + 1), 2, none⟩ = some (.int .i64 q9) ∧ X.cell? ⟨(A9 + 1), 3, none⟩ = some (.int .i64 l9) ∧ X.cell? ⟨(A9 + 1), 4, none⟩ = some (.int .i64 z9) ∧ (A9 + 1) < X.heap.size) ∧ (X.cell? ⟨(N + 1), 0, none⟩ = some (.int .i8 kd) ∧ X.cell? ⟨(N + 1), 1, none⟩ = some (.int .i64 cli) ∧ X.cell? ⟨(N + 1), 2, none⟩ = some (.int .i64 nu) ∧ X.cell? ⟨(N + 1), 3, none⟩ = some (.int .i64 te) ∧ X.cell? ⟨(N + 1), 4, none⟩ = some (.int .i64 ra) ∧ X.cell? ⟨(N + 1), 5, none⟩ = some (.int .i64 bu) ∧ X.cell? ⟨(N + 1), 6, none⟩ = some (.int .i64 sh) ∧ X.cell? ⟨(N + 1), 7, none⟩ = some (.int .i64 ep) ∧ X.cell? ⟨(N + 1), 8, none⟩ = some (.int .i64 le) ∧ X.cell? ⟨(N + 1), 9, none⟩ = some (.int .i64 sz) ∧ X.cell? ⟨(N + 1), 10, none⟩ = some (.int .i64 sp) ∧ X.cell? ⟨(N + 1), 11, none⟩ = some (.bool cl) ∧ X.cell? ⟨(N + 1), 12, none⟩ = some (.slice ia iN ic) ∧ (N + 1) < X.heap.size)) (by kernel_rfl) ⟨⟨cell_at HR.out 0, cell_at HR.out 1, cell_at HR.out 2, cell_at HR.out 3, cell_at HR.out 4, cell_at HR.out 5, cell_at HR.out 6, HR.out.lt⟩, ⟨cell_at HA1.out 0, cell_at HA1.out 1, cell_at HA1.out 2, cell_at HA1.out 3, cell_at HA1.out 4, cell_at HA1.out 5, cell_at HA1.out 6, HA1.out.lt⟩, ⟨cell_at HA2.out 0, cell_at HA2.out 1, cell_at HA2.out 2, cell_at HA2.out 3, cell_at HA2.out 4, HA2.out.lt⟩, ⟨cell_at HC.out 0, cell_at HC.out 1, cell_at HC.out 2, cell_at HC.out 3, cell_at HC.out 4, cell_at HC.out 5, cell_at HC.out 6, cell_at HC.out 7, cell_at HC.out 8, cell_at HC.out 9, cell_at HC.out 10, cell_at HC.out 11, cell_at HC.out 12, HC.out.lt⟩⟩ (fun hHeld => ?_)
        ((refine wpAnyH_take (i := 0) (v := ?_) (by (simp only [List.getElem?_toArray, List.getElem?_cons_succ, List.getElem?_cons_zero]); rfl) (by kernel_rfl) (by kernel_rfl) (by kernel_rfl) (by exact fun _ _ _ h => h) (Or.inl ⟨by rfl, ?_⟩) (by assumption) ?_); rotate_left; focus (intro wS hSw; (try dsimp only at hSw); go_simp; first | done | with_reducible rfl); try simp only [Act.put, List.setIfInBounds_toArray, List.set_cons_zero, List.set_cons_succ])
        ((refine wpAnyH_take (i := 1) (v := ?_) (by (simp only [List.getElem?_toArray, List.getElem?_cons_succ, List.getElem?_cons_zero]); rfl) (by kernel_rfl) (by kernel_rfl) (by kernel_rfl) (by exact fun _ _ _ h => h) (Or.inl ⟨by rfl, ?_⟩) (by assumption) ?_); rotate_left; focus (intro wS hSw; (try dsimp only at hSw); go_simp; first | done | with_reducible rfl); try simp only [Act.put, List.setIfInBounds_toArray, List.set_cons_zero, List.set_cons_succ])
        ((refine wpAnyH_take (i := 2) (v := ?_) (by (simp only [List.getElem?_toArray, List.getElem?_cons_succ, List.getElem?_cons_zero]); rfl) (by kernel_rfl) (by kernel_rfl) (by kernel_rfl) (by exact fun _ _ _ h => h) (Or.inl ⟨by rfl, ?_⟩) (by assumption) ?_); rotate_left; focus (intro wS hSw; (try dsimp only at hSw); go_simp; first | done | with_reducible rfl); try simp only [Act.put, List.setIfInBounds_toArray, List.set_cons_zero, List.set_cons_succ])
        ((refine wpAnyH_take (i := 3) (v := ?_) (by (simp only [List.getElem?_toArray, List.getElem?_cons_succ, List.getElem?_cons_zero]); rfl) (by kernel_rfl) (by kernel_rfl) (by kernel_rfl) (by exact fun _ _ _ h => h) (Or.inl ⟨by rfl, ?_⟩) (by assumption) ?_); rotate_left; focus (intro wS hSw; (try dsimp only at hSw); go_simp; first | done | with_reducible rfl); try simp only [Act.put, List.setIfInBounds_toArray, List.set_cons_zero, List.set_cons_succ])
        ((refine wpAnyH_take (i := 4) (v := ?_) (by (simp only [List.getElem?_toArray, List.getElem?_cons_succ, List.getElem?_cons_zero]); rfl) (by kernel_rfl) (by kernel_rfl) (by kernel_rfl) (by exact fun _ _ _ h => h) (Or.inl ⟨by (go_simp; try rfl), ?_⟩) (by assumption) ?_); rotate_left; focus (intro wS hSw; (try dsimp only at hSw); go_simp; first | done | with_reducible rfl); try simp only [Act.put, List.setIfInBounds_toArray, List.set_cons_zero, List.set_cons_succ])
        ((refine wpAnyH_take (i := 5) (v := ?_) (by (simp only [List.getElem?_toArray, List.getElem?_cons_succ, List.getElem?_cons_zero]); rfl) (by kernel_rfl) (by kernel_rfl) (by kernel_rfl) (by exact fun _ _ _ h => h) (Or.inl ⟨by (go_simp; try rfl), ?_⟩) (by assumption) ?_); rotate_left; focus (intro wS hSw; (try dsimp only at hSw); go_simp; first | done | with_reducible rfl); try simp only [Act.put, List.setIfInBounds_toArray, List.set_cons_zero, List.set_cons_succ])
        ((refine wpAnyH_take (i := 6) (v := ?_) (by (simp only [List.getElem?_toArray, List.getElem?_cons_succ, List.getElem?_cons_zero]); rfl) (by kernel_rfl) (by kernel_rfl) (by kernel_rfl) (by exact fun _ _ _ h => h) (Or.inl ⟨by (go_simp; try rfl), ?_⟩) (by assumption) ?_); rotate_left; focus (intro wS hSw; (try dsimp only at hSw); go_simp; first | done | with_reducible rfl); try simp only [Act.put, List.setIfInBounds_toArray, List.set_cons_zero, List.set_cons_succ])
        ((refine wpAnyH_take (i := 8) (v := ?_) (by (simp only [List.getElem?_toArray, List.getElem?_cons_succ, List.getElem?_cons_zero]); rfl) (by kernel_rfl) (by kernel_rfl) (by kernel_rfl) (by exact fun _ _ _ h => h) (Or.inl ⟨by (go_simp; try rfl), ?_⟩) (by assumption) ?_); rotate_left; focus (intro wS hSw; (try dsimp only at hSw); go_simp; first | done | with_reducible rfl); try simp only [Act.put, List.setIfInBounds_toArray, List.set_cons_zero, List.set_cons_succ])
        ((refine wpAnyH_take (i := 9) (v := ?_) (by (simp only [List.getElem?_toArray, List.getElem?_cons_succ, List.getElem?_cons_zero]); rfl) (by kernel_rfl) (by kernel_rfl) (by kernel_rfl) (by exact fun _ _ _ h => h) (Or.inl ⟨by (go_simp; try rfl), ?_⟩) (by assumption) ?_); rotate_left; focus (intro wS hSw; (try dsimp only at hSw); go_simp; first | done | with_reducible rfl); try simp only [Act.put, List.setIfInBounds_toArray, List.set_cons_zero, List.set_cons_succ])
        ((refine wpAnyH_take (i := 10) (v := ?_) (by (simp only [List.getElem?_toArray, List.getElem?_cons_succ, List.getElem?_cons_zero]); rfl) (by kernel_rfl) (by kernel_rfl) (by kernel_rfl) (by exact fun _ _ _ h => h) (Or.inl ⟨by (go_simp; try rfl), ?_⟩) (by assumption) ?_); rotate_left; focus (intro wS hSw; (try dsimp only at hSw); go_simp; first | done | with_reducible rfl); try simp only [Act.put, List.setIfInBounds_toArray, List.set_cons_zero, List.set_cons_succ])
        ((refine wpAnyH_take (i := 12) (v := ?_) (by (simp only [List.getElem?_toArray, List.getElem?_cons_succ, List.getElem?_cons_zero]); rfl) (by kernel_rfl) (by kernel_rfl) (by kernel_rfl) (by exact fun _ _ _ h => h) (Or.inl ⟨by (go_simp; try rfl), ?_⟩) (by assumption) ?_); rotate_left; focus (intro wS hSw; (try dsimp only at hSw); go_simp; first | done | with_reducible rfl); try simp only [Act.put, List.setIfInBounds_toArray, List.set_cons_zero, List.set_cons_succ])
        ((refine wpAnyH_take (i := 13) (v := ?_) (by (simp only [List.getElem?_toArray, List.getElem?_cons_succ, List.getElem?_cons_zero]); rfl) (by kernel_rfl) (by kernel_rfl) (by kernel_rfl) (by exact fun _ _ _ h => h) (Or.inl ⟨by (go_simp; try rfl), ?_⟩) (by assumption) ?_); rotate_left; focus (intro wS hSw; (try dsimp only at hSw); go_simp; first | done | with_reducible rfl); try simp only [Act.put, List.setIfInBounds_toArray, List.set_cons_zero, List.set_cons_succ])
        refine wpAnyH_ready (rs := [7]) (by kernel_rfl) (by simp) ?_
        refine AllReadyH.cons (by (simp only [List.getElem?_toArray, List.getElem?_cons_succ, List.getElem?_cons_zero]); rfl) (fun K hK => ?_) AllReadyH.nil
        go_simp
        go_fit (HOA.out _ _ (V1.out.below (Below.refl _ _).drew))
        rintro e W18 ⟨rfl, hB⟩
        replace hB := below_undrew hB
        replace HB := Lib.hid (HB.out.trans (hB.mono HB.out.size))
        replace HT := Lib.hid (HT0.out.below HB.out)
        replace HL := Lib.hid (HL0.out.below HB.out)
        replace HS := Lib.hid (HS0.out.below HB.out)
        replace HD := Lib.hid (HD0.out.below HB.out)
        replace HI := Lib.hid (HI0.out.below HB.out)
        replace HR := Lib.hid (HR.out.step hB)
        replace HC := Lib.hid (HC.out.step hB)
        replace V1 := Lib.hid (V1.out.below hB)
        replace HA1 := Lib.hid (HA1.out.step hB)
        replace HA2 := Lib.hid (HA2.out.step hB)
        replace V2 := Lib.hid (V2.out.below hB)
        replace HB1 := Lib.hid (HB1.out.step hB)
        replace V3 := Lib.hid (V3.out.below hB)
        replace HC1 := Lib.hid (HC1.out.step hB)
        replace V4 := Lib.hid (V4.out.below hB)
        replace HD1 := Lib.hid (HD1.out.step hB)
        go_wp2_with fail
        refine hK.out _ _ ⟨⟨cell_at HR.out 0, cell_at HR.out 1, cell_at HR.out 2, cell_at HR.out 3, cell_at HR.out 4, cell_at HR.out 5, cell_at HR.out 6, HR.out.lt⟩, ⟨cell_at HA1.out 0, cell_at HA1.out 1, cell_at HA1.out 2, cell_at HA1.out 3, cell_at HA1.out 4, cell_at HA1.out 5, cell_at HA1.out 6, HA1.out.lt⟩, ⟨cell_at HA2.out 0, cell_at HA2.out 1, cell_at HA2.out 2, cell_at HA2.out 3, cell_at HA2.out 4, HA2.out.lt⟩, ⟨cell_at HC.out 0, cell_at HC.out 1, cell_at HC.out 2, cell_at HC.out 3, cell_at HC.out 4, cell_at HC.out 5, cell_at HC.out 6, cell_at HC.out 7, cell_at HC.out 8, cell_at HC.out 9, cell_at HC.out 10, cell_at HC.out 11, cell_at HC.out 12, HC.out.lt⟩⟩ (fun hHeld => ?_)
        clear hK K hB
        try simp only [Act.put, List.setIfInBounds_toArray, List.set_cons_zero, List.set_cons_succ]
        refine wpAnyH_ready (rs := [11]) (by kernel_rfl) (by simp) ?_
        refine AllReadyH.cons (by (simp only [List.getElem?_toArray, List.getElem?_cons_succ, List.getElem?_cons_zero]); rfl) (fun K hK => ?_) AllReadyH.nil
        go_simp
        go_fit (HOS.out _ _ (HSV.out _ HT.out HL.out HS.out HD.out))
        rintro e W19 ⟨rfl, hB⟩
        replace HB := Lib.hid (HB.out.trans (hB.mono HB.out.size))
        replace HT := Lib.hid (HT0.out.below HB.out)
        replace HL := Lib.hid (HL0.out.below HB.out)
        replace HS := Lib.hid (HS0.out.below HB.out)
        replace HD := Lib.hid (HD0.out.below HB.out)
        replace HI := Lib.hid (HI0.out.below HB.out)
        replace HR := Lib.hid (HR.out.step hB)
        replace HC := Lib.hid (HC.out.step hB)
        replace V1 := Lib.hid (V1.out.below hB)
        replace HA1 := Lib.hid (HA1.out.step hB)
        replace HA2 := Lib.hid (HA2.out.step hB)
        replace V2 := Lib.hid (V2.out.below hB)
        replace HB1 := Lib.hid (HB1.out.step hB)
        replace V3 := Lib.hid (V3.out.below hB)
        replace HC1 := Lib.hid (HC1.out.step hB)
        replace V4 := Lib.hid (V4.out.below hB)
        replace HD1 := Lib.hid (HD1.out.step hB)
        go_wp2_with fail
        refine hK.out _ _ ⟨⟨cell_at HR.out 0, cell_at HR.out 1, cell_at HR.out 2, cell_at HR.out 3, cell_at HR.out 4, cell_at HR.out 5, cell_at HR.out 6, HR.out.lt⟩, ⟨cell_at HA1.out 0, cell_at HA1.out 1, cell_at HA1.out 2, cell_at HA1.out 3, cell_at HA1.out 4, cell_at HA1.out 5, cell_at HA1.out 6, HA1.out.lt⟩, ⟨cell_at HA2.out 0, cell_at HA2.out 1, cell_at HA2.out 2, cell_at HA2.out 3, cell_at HA2.out 4, HA2.out.lt⟩, ⟨cell_at HC.out 0, cell_at HC.out 1, cell_at HC.out 2, cell_at HC.out 3, cell_at HC.out 4, cell_at HC.out 5, cell_at HC.out 6, cell_at HC.out 7, cell_at HC.out 8, cell_at HC.out 9, cell_at HC.out 10, cell_at HC.out 11, cell_at HC.out 12, HC.out.lt⟩⟩ (fun hHeld => ?_)
        clear hK K hB
        try simp only [Act.put, List.setIfInBounds_toArray, List.set_cons_zero, List.set_cons_succ]
        ((refine wpAnyH_take (i := 14) (v := ?_) (by (simp only [List.getElem?_toArray, List.getElem?_cons_succ, List.getElem?_cons_zero]); rfl) (by kernel_rfl) (by kernel_rfl) (by kernel_rfl) (by exact fun _ _ _ h => h) (Or.inl ⟨by (go_simp; try rfl), ?_⟩) (by assumption) ?_); rotate_left; focus (intro wS hSw; (try dsimp only at hSw); go_simp; first | done | with_reducible rfl); try simp only [Act.put, List.setIfInBounds_toArray, List.set_cons_zero, List.set_cons_succ])
        ((refine wpAnyH_take (i := 15) (v := ?_) (by (simp only [List.getElem?_toArray, List.getElem?_cons_succ, List.getElem?_cons_zero]); rfl) (by kernel_rfl) (by kernel_rfl) (by kernel_rfl) (by exact fun _ _ _ h => h) (Or.inl ⟨by (go_simp; try rfl), ?_⟩) (by assumption) ?_); rotate_left; focus (intro wS hSw; (try dsimp only at hSw); go_simp; first | done | with_reducible rfl); try simp only [Act.put, List.setIfInBounds_toArray, List.set_cons_zero, List.set_cons_succ])
        ((refine wpAnyH_take (i := 16) (v := ?_) (by (simp only [List.getElem?_toArray, List.getElem?_cons_succ, List.getElem?_cons_zero]); rfl) (by kernel_rfl) (by kernel_rfl) (by kernel_rfl) (by exact fun _ _ _ h => h) (Or.inl ⟨by rfl, ?_⟩) (by assumption) ?_); rotate_left; focus (intro wS hSw; (try dsimp only at hSw); go_simp; first | done | with_reducible rfl); try simp only [Act.put, List.setIfInBounds_toArray, List.set_cons_zero, List.set_cons_succ])
        ((refine wpAnyH_take (i := 17) (v := ?_) (by (simp only [List.getElem?_toArray, List.getElem?_cons_succ, List.getElem?_cons_zero]); rfl) (by kernel_rfl) (by kernel_rfl) (by kernel_rfl) (by exact fun _ _ _ h => h) (Or.inl ⟨by rfl, ?_⟩) (by assumption) ?_); rotate_left; focus (intro wS hSw; (try dsimp only at hSw); go_simp; first | done | with_reducible rfl); try simp only [Act.put, List.setIfInBounds_toArray, List.set_cons_zero, List.set_cons_succ])
        refine wpAnyH_ready (rs := [18]) (by kernel_rfl) (by simp) ?_
        refine AllReadyH.cons (by (simp only [List.getElem?_toArray, List.getElem?_cons_succ, List.getElem?_cons_zero]); rfl) (fun K hK => ?_) AllReadyH.nil
        go_simp
        go_fit (HWK.out _)
        rintro e W20 ⟨rfl, hB⟩
        replace HB := Lib.hid (HB.out.trans (hB.mono HB.out.size))
        replace HT := Lib.hid (HT0.out.below HB.out)
        replace HL := Lib.hid (HL0.out.below HB.out)
        replace HS := Lib.hid (HS0.out.below HB.out)
        replace HD := Lib.hid (HD0.out.below HB.out)
        replace HI := Lib.hid (HI0.out.below HB.out)
        replace HR := Lib.hid (HR.out.step hB)
        replace HC := Lib.hid (HC.out.step hB)
        replace V1 := Lib.hid (V1.out.below hB)
        replace HA1 := Lib.hid (HA1.out.step hB)
        replace HA2 := Lib.hid (HA2.out.step hB)
        replace V2 := Lib.hid (V2.out.below hB)
        replace HB1 := Lib.hid (HB1.out.step hB)
        replace V3 := Lib.hid (V3.out.below hB)
        replace HC1 := Lib.hid (HC1.out.step hB)
        replace V4 := Lib.hid (V4.out.below hB)
        replace HD1 := Lib.hid (HD1.out.step hB)
        go_wp2_with fail
        refine hK.out _ _ ⟨⟨cell_at HR.out 0, cell_at HR.out 1, cell_at HR.out 2, cell_at HR.out 3, cell_at HR.out 4, cell_at HR.out 5, cell_at HR.out 6, HR.out.lt⟩, ⟨cell_at HA1.out 0, cell_at HA1.out 1, cell_at HA1.out 2, cell_at HA1.out 3, cell_at HA1.out 4, cell_at HA1.out 5, cell_at HA1.out 6, HA1.out.lt⟩, ⟨cell_at HA2.out 0, cell_at HA2.out 1, cell_at HA2.out 2, cell_at HA2.out 3, cell_at HA2.out 4, HA2.out.lt⟩, ⟨cell_at HC.out 0, cell_at HC.out 1, cell_at HC.out 2, cell_at HC.out 3, cell_at HC.out 4, cell_at HC.out 5, cell_at HC.out 6, cell_at HC.out 7, cell_at HC.out 8, cell_at HC.out 9, cell_at HC.out 10, cell_at HC.out 11, cell_at HC.out 12, HC.out.lt⟩⟩ (fun hHeld => ?_)
        clear hK K hB
        try simp only [Act.put, List.setIfInBounds_toArray, List.set_cons_zero, List.set_cons_succ]
        ((refine wpAnyH_take (i := 19) (v := ?_) (by (simp only [List.getElem?_toArray, List.getElem?_cons_succ, List.getElem?_cons_zero]); rfl) (by kernel_rfl) (by kernel_rfl) (by kernel_rfl) (by exact fun _ _ _ h => h) (Or.inl ⟨by rfl, ?_⟩) (by assumption) ?_); rotate_left; focus (intro wS hSw; (try dsimp only at hSw); go_simp; first | done | with_reducible rfl); try simp only [Act.put, List.setIfInBounds_toArray, List.set_cons_zero, List.set_cons_succ])
        ((refine wpAnyH_take (i := 20) (v := ?_) (by (simp only [List.getElem?_toArray, List.getElem?_cons_succ, List.getElem?_cons_zero]); rfl) (by kernel_rfl) (by kernel_rfl) (by kernel_rfl) (by exact fun _ _ _ h => h) (Or.inl ⟨by rfl, ?_⟩) (by assumption) ?_); rotate_left; focus (intro wS hSw; (try dsimp only at hSw); go_simp; first | done | with_reducible rfl); try simp only [Act.put, List.setIfInBounds_toArray, List.set_cons_zero, List.set_cons_succ])
        refine wpAnyH_done (by kernel_rfl) ?_ _
        try simp only [Act.put, List.setIfInBounds_toArray, List.set_cons_zero, List.set_cons_succ]
        go_wp2_with fail
        go_ret
        exact ⟨rfl, HB.out⟩
      · skip
        have d1 : (ge != 0) = true := by simp [hz]
        clear qR0 qR1 qR2 qR3 qR4 qR5 qR6 qRz qRl qA10 qA11 qA12 qA13 qA14 qA15 qA16 qA1z qA1l qA20 qA21 qA22 qA23 qA24 qA2z qA2l qC0 qC1 qC2 qC3 qC4 qC5 qC6 qC7 qC8 qC9 qC10 qC11 qC12 qCz qCl
        refine wp_region_held_drew (S := fun X => (X.cell? ⟨N, 0, none⟩ = some (.int .i64 s.term) ∧ X.cell? ⟨N, 1, none⟩ = some (.int .i64 s.stamp) ∧ X.cell? ⟨N, 2, none⟩ = some (.int .i64 s.next) ∧ X.cell? ⟨N, 3, none⟩ = some (.slice ta tn tc) ∧ X.cell? ⟨N, 4, none⟩ = some (.slice la ln lc) ∧ X.cell? ⟨N, 5, none⟩ = some (.slice sa sn sc) ∧ X.cell? ⟨N, 6, none⟩ = some (.slice da dn dc) ∧ N < X.heap.size) ∧ (X.cell? ⟨A9, 0, none⟩ = some (.int .i64 sa9.term) ∧ X.cell? ⟨A9, 1, none⟩ = some (.int .i64 sa9.stamp) ∧ X.cell? ⟨A9, 2, none⟩ = some (.int .i64 sa9.next) ∧ X.cell? ⟨A9, 3, none⟩ = some (.slice at1 nt1 ct1) ∧ X.cell? ⟨A9, 4, none⟩ = some (.slice al1 nl1 cl1) ∧ X.cell? ⟨A9, 5, none⟩ = some (.slice as1 ns1 cs1) ∧ X.cell? ⟨A9, 6, none⟩ = some (.slice ad1 nd1 cd1) ∧ A9 < X.heap.size) ∧ (X.cell? ⟨(A9 + 1), 0, none⟩ = some (.int .i64 ge) ∧ X.cell? ⟨(A9 + 1), 1, none⟩ = some (.int .i64 r9) ∧ X.cell? ⟨(A9 + 1), 2, none⟩ = some (.int .i64 q9) ∧ X.cell? ⟨(A9 + 1), 3, none⟩ = some (.int .i64 l9) ∧ X.cell? ⟨(A9 + 1), 4, none⟩ = some (.int .i64 z9) ∧ (A9 + 1) < X.heap.size) ∧ (X.cell? ⟨(N + 1), 0, none⟩ = some (.int .i8 kd) ∧ X.cell? ⟨(N + 1), 1, none⟩ = some (.int .i64 cli) ∧ X.cell? ⟨(N + 1), 2, none⟩ = some (.int .i64 nu) ∧ X.cell? ⟨(N + 1), 3, none⟩ = some (.int .i64 te) ∧ X.cell? ⟨(N + 1), 4, none⟩ = some (.int .i64 ra) ∧ X.cell? ⟨(N + 1), 5, none⟩ = some (.int .i64 bu) ∧ X.cell? ⟨(N + 1), 6, none⟩ = some (.int .i64 sh) ∧ X.cell? ⟨(N + 1), 7, none⟩ = some (.int .i64 ep) ∧ X.cell? ⟨(N + 1), 8, none⟩ = some (.int .i64 le) ∧ X.cell? ⟨(N + 1), 9, none⟩ = some (.int .i64 sz) ∧ X.cell? ⟨(N + 1), 10, none⟩ = some (.int .i64 sp) ∧ X.cell? ⟨(N + 1), 11, none⟩ = some (.bool cl) ∧ X.cell? ⟨(N + 1), 12, none⟩ = some (.slice ia iN ic) ∧ (N + 1) < X.heap.size)) (by kernel_rfl) ⟨⟨cell_at HR.out 0, cell_at HR.out 1, cell_at HR.out 2, cell_at HR.out 3, cell_at HR.out 4, cell_at HR.out 5, cell_at HR.out 6, HR.out.lt⟩, ⟨cell_at HA1.out 0, cell_at HA1.out 1, cell_at HA1.out 2, cell_at HA1.out 3, cell_at HA1.out 4, cell_at HA1.out 5, cell_at HA1.out 6, HA1.out.lt⟩, ⟨cell_at HA2.out 0, cell_at HA2.out 1, cell_at HA2.out 2, cell_at HA2.out 3, cell_at HA2.out 4, HA2.out.lt⟩, ⟨cell_at HC.out 0, cell_at HC.out 1, cell_at HC.out 2, cell_at HC.out 3, cell_at HC.out 4, cell_at HC.out 5, cell_at HC.out 6, cell_at HC.out 7, cell_at HC.out 8, cell_at HC.out 9, cell_at HC.out 10, cell_at HC.out 11, cell_at HC.out 12, HC.out.lt⟩⟩ (fun hHeld => ?_)
        ((refine wpAnyH_take (i := 0) (v := ?_) (by (simp only [List.getElem?_toArray, List.getElem?_cons_succ, List.getElem?_cons_zero]); rfl) (by kernel_rfl) (by kernel_rfl) (by kernel_rfl) (by exact fun _ _ _ h => h) (Or.inl ⟨by rfl, ?_⟩) (by assumption) ?_); rotate_left; focus (intro wS hSw; (try dsimp only at hSw); go_simp; first | done | with_reducible rfl); try simp only [Act.put, List.setIfInBounds_toArray, List.set_cons_zero, List.set_cons_succ])
        ((refine wpAnyH_take (i := 1) (v := ?_) (by (simp only [List.getElem?_toArray, List.getElem?_cons_succ, List.getElem?_cons_zero]); rfl) (by kernel_rfl) (by kernel_rfl) (by kernel_rfl) (by exact fun _ _ _ h => h) (Or.inl ⟨by rfl, ?_⟩) (by assumption) ?_); rotate_left; focus (intro wS hSw; (try dsimp only at hSw); go_simp; first | done | with_reducible rfl); try simp only [Act.put, List.setIfInBounds_toArray, List.set_cons_zero, List.set_cons_succ])
        ((refine wpAnyH_take (i := 2) (v := ?_) (by (simp only [List.getElem?_toArray, List.getElem?_cons_succ, List.getElem?_cons_zero]); rfl) (by kernel_rfl) (by kernel_rfl) (by kernel_rfl) (by exact fun _ _ _ h => h) (Or.inl ⟨by rfl, ?_⟩) (by assumption) ?_); rotate_left; focus (intro wS hSw; (try dsimp only at hSw); go_simp; first | done | with_reducible rfl); try simp only [Act.put, List.setIfInBounds_toArray, List.set_cons_zero, List.set_cons_succ])
        ((refine wpAnyH_take (i := 3) (v := ?_) (by (simp only [List.getElem?_toArray, List.getElem?_cons_succ, List.getElem?_cons_zero]); rfl) (by kernel_rfl) (by kernel_rfl) (by kernel_rfl) (by exact fun _ _ _ h => h) (Or.inl ⟨by rfl, ?_⟩) (by assumption) ?_); rotate_left; focus (intro wS hSw; (try dsimp only at hSw); go_simp; first | done | with_reducible rfl); try simp only [Act.put, List.setIfInBounds_toArray, List.set_cons_zero, List.set_cons_succ])
        ((refine wpAnyH_take (i := 4) (v := undef) (by (simp only [List.getElem?_toArray, List.getElem?_cons_succ, List.getElem?_cons_zero]); rfl) (by kernel_rfl) (by kernel_rfl) (by kernel_rfl) (by exact fun _ _ _ h => h) (Or.inr ⟨by (go_simp; try (intro hh; cases hh)), rfl⟩) (by assumption) ?_); try simp only [Act.put, List.setIfInBounds_toArray, List.set_cons_zero, List.set_cons_succ])
        ((refine wpAnyH_take (i := 5) (v := undef) (by (simp only [List.getElem?_toArray, List.getElem?_cons_succ, List.getElem?_cons_zero]); rfl) (by kernel_rfl) (by kernel_rfl) (by kernel_rfl) (by exact fun _ _ _ h => h) (Or.inr ⟨by (go_simp; try (intro hh; cases hh)), rfl⟩) (by assumption) ?_); try simp only [Act.put, List.setIfInBounds_toArray, List.set_cons_zero, List.set_cons_succ])
        ((refine wpAnyH_take (i := 6) (v := undef) (by (simp only [List.getElem?_toArray, List.getElem?_cons_succ, List.getElem?_cons_zero]); rfl) (by kernel_rfl) (by kernel_rfl) (by kernel_rfl) (by exact fun _ _ _ h => h) (Or.inr ⟨by (go_simp; try (intro hh; cases hh)), rfl⟩) (by assumption) ?_); try simp only [Act.put, List.setIfInBounds_toArray, List.set_cons_zero, List.set_cons_succ])
        ((refine wpAnyH_take (i := 7) (v := undef) (by (simp only [List.getElem?_toArray, List.getElem?_cons_succ, List.getElem?_cons_zero]); rfl) (by kernel_rfl) (by kernel_rfl) (by kernel_rfl) (by exact fun _ _ _ h => h) (Or.inr ⟨by (go_simp; try (intro hh; cases hh)), rfl⟩) (by assumption) ?_); try simp only [Act.put, List.setIfInBounds_toArray, List.set_cons_zero, List.set_cons_succ])
        ((refine wpAnyH_take (i := 8) (v := undef) (by (simp only [List.getElem?_toArray, List.getElem?_cons_succ, List.getElem?_cons_zero]); rfl) (by kernel_rfl) (by kernel_rfl) (by kernel_rfl) (by exact fun _ _ _ h => h) (Or.inr ⟨by (go_simp; try (intro hh; cases hh)), rfl⟩) (by assumption) ?_); try simp only [Act.put, List.setIfInBounds_toArray, List.set_cons_zero, List.set_cons_succ])
        ((refine wpAnyH_take (i := 9) (v := undef) (by (simp only [List.getElem?_toArray, List.getElem?_cons_succ, List.getElem?_cons_zero]); rfl) (by kernel_rfl) (by kernel_rfl) (by kernel_rfl) (by exact fun _ _ _ h => h) (Or.inr ⟨by (go_simp; try (intro hh; cases hh)), rfl⟩) (by assumption) ?_); try simp only [Act.put, List.setIfInBounds_toArray, List.set_cons_zero, List.set_cons_succ])
        ((refine wpAnyH_take (i := 10) (v := undef) (by (simp only [List.getElem?_toArray, List.getElem?_cons_succ, List.getElem?_cons_zero]); rfl) (by kernel_rfl) (by kernel_rfl) (by kernel_rfl) (by exact fun _ _ _ h => h) (Or.inr ⟨by (go_simp; try (intro hh; cases hh)), rfl⟩) (by assumption) ?_); try simp only [Act.put, List.setIfInBounds_toArray, List.set_cons_zero, List.set_cons_succ])
        ((refine wpAnyH_take (i := 11) (v := undef) (by (simp only [List.getElem?_toArray, List.getElem?_cons_succ, List.getElem?_cons_zero]); rfl) (by kernel_rfl) (by kernel_rfl) (by kernel_rfl) (by exact fun _ _ _ h => h) (Or.inr ⟨by (go_simp; try (intro hh; cases hh)), rfl⟩) (by assumption) ?_); try simp only [Act.put, List.setIfInBounds_toArray, List.set_cons_zero, List.set_cons_succ])
        ((refine wpAnyH_take (i := 12) (v := undef) (by (simp only [List.getElem?_toArray, List.getElem?_cons_succ, List.getElem?_cons_zero]); rfl) (by kernel_rfl) (by kernel_rfl) (by kernel_rfl) (by exact fun _ _ _ h => h) (Or.inr ⟨by (go_simp; try (intro hh; cases hh)), rfl⟩) (by assumption) ?_); try simp only [Act.put, List.setIfInBounds_toArray, List.set_cons_zero, List.set_cons_succ])
        ((refine wpAnyH_take (i := 13) (v := undef) (by (simp only [List.getElem?_toArray, List.getElem?_cons_succ, List.getElem?_cons_zero]); rfl) (by kernel_rfl) (by kernel_rfl) (by kernel_rfl) (by exact fun _ _ _ h => h) (Or.inr ⟨by (go_simp; try (intro hh; cases hh)), rfl⟩) (by assumption) ?_); try simp only [Act.put, List.setIfInBounds_toArray, List.set_cons_zero, List.set_cons_succ])
        ((refine wpAnyH_take (i := 14) (v := undef) (by (simp only [List.getElem?_toArray, List.getElem?_cons_succ, List.getElem?_cons_zero]); rfl) (by kernel_rfl) (by kernel_rfl) (by kernel_rfl) (by exact fun _ _ _ h => h) (Or.inr ⟨by (go_simp; try (intro hh; cases hh)), rfl⟩) (by assumption) ?_); try simp only [Act.put, List.setIfInBounds_toArray, List.set_cons_zero, List.set_cons_succ])
        ((refine wpAnyH_take (i := 15) (v := undef) (by (simp only [List.getElem?_toArray, List.getElem?_cons_succ, List.getElem?_cons_zero]); rfl) (by kernel_rfl) (by kernel_rfl) (by kernel_rfl) (by exact fun _ _ _ h => h) (Or.inr ⟨by (go_simp; try (intro hh; cases hh)), rfl⟩) (by assumption) ?_); try simp only [Act.put, List.setIfInBounds_toArray, List.set_cons_zero, List.set_cons_succ])
        ((refine wpAnyH_take (i := 16) (v := ?_) (by (simp only [List.getElem?_toArray, List.getElem?_cons_succ, List.getElem?_cons_zero]); rfl) (by kernel_rfl) (by kernel_rfl) (by kernel_rfl) (by exact fun _ _ _ h => h) (Or.inl ⟨by rfl, ?_⟩) (by assumption) ?_); rotate_left; focus (intro wS hSw; (try dsimp only at hSw); go_simp; first | done | with_reducible rfl); try simp only [Act.put, List.setIfInBounds_toArray, List.set_cons_zero, List.set_cons_succ])
        ((refine wpAnyH_take (i := 17) (v := ?_) (by (simp only [List.getElem?_toArray, List.getElem?_cons_succ, List.getElem?_cons_zero]); rfl) (by kernel_rfl) (by kernel_rfl) (by kernel_rfl) (by exact fun _ _ _ h => h) (Or.inl ⟨by rfl, ?_⟩) (by assumption) ?_); rotate_left; focus (intro wS hSw; (try dsimp only at hSw); go_simp; first | done | with_reducible rfl); try simp only [Act.put, List.setIfInBounds_toArray, List.set_cons_zero, List.set_cons_succ])
        refine wpAnyH_ready (rs := [18]) (by kernel_rfl) (by simp) ?_
        refine AllReadyH.cons (by (simp only [List.getElem?_toArray, List.getElem?_cons_succ, List.getElem?_cons_zero]); rfl) (fun K hK => ?_) AllReadyH.nil
        go_simp
        go_fit (HWK.out _)
        rintro e W18 ⟨rfl, hB⟩
        replace hB := below_undrew hB
        replace HB := Lib.hid (HB.out.trans (hB.mono HB.out.size))
        replace HT := Lib.hid (HT0.out.below HB.out)
        replace HL := Lib.hid (HL0.out.below HB.out)
        replace HS := Lib.hid (HS0.out.below HB.out)
        replace HD := Lib.hid (HD0.out.below HB.out)
        replace HI := Lib.hid (HI0.out.below HB.out)
        replace HR := Lib.hid (HR.out.step hB)
        replace HC := Lib.hid (HC.out.step hB)
        replace V1 := Lib.hid (V1.out.below hB)
        replace HA1 := Lib.hid (HA1.out.step hB)
        replace HA2 := Lib.hid (HA2.out.step hB)
        replace V2 := Lib.hid (V2.out.below hB)
        replace HB1 := Lib.hid (HB1.out.step hB)
        replace V3 := Lib.hid (V3.out.below hB)
        replace HC1 := Lib.hid (HC1.out.step hB)
        replace V4 := Lib.hid (V4.out.below hB)
        replace HD1 := Lib.hid (HD1.out.step hB)
        go_wp2_with fail
        refine hK.out _ _ ⟨⟨cell_at HR.out 0, cell_at HR.out 1, cell_at HR.out 2, cell_at HR.out 3, cell_at HR.out 4, cell_at HR.out 5, cell_at HR.out 6, HR.out.lt⟩, ⟨cell_at HA1.out 0, cell_at HA1.out 1, cell_at HA1.out 2, cell_at HA1.out 3, cell_at HA1.out 4, cell_at HA1.out 5, cell_at HA1.out 6, HA1.out.lt⟩, ⟨cell_at HA2.out 0, cell_at HA2.out 1, cell_at HA2.out 2, cell_at HA2.out 3, cell_at HA2.out 4, HA2.out.lt⟩, ⟨cell_at HC.out 0, cell_at HC.out 1, cell_at HC.out 2, cell_at HC.out 3, cell_at HC.out 4, cell_at HC.out 5, cell_at HC.out 6, cell_at HC.out 7, cell_at HC.out 8, cell_at HC.out 9, cell_at HC.out 10, cell_at HC.out 11, cell_at HC.out 12, HC.out.lt⟩⟩ (fun hHeld => ?_)
        clear hK K hB
        try simp only [Act.put, List.setIfInBounds_toArray, List.set_cons_zero, List.set_cons_succ]
        ((refine wpAnyH_take (i := 19) (v := ?_) (by (simp only [List.getElem?_toArray, List.getElem?_cons_succ, List.getElem?_cons_zero]); rfl) (by kernel_rfl) (by kernel_rfl) (by kernel_rfl) (by exact fun _ _ _ h => h) (Or.inl ⟨by rfl, ?_⟩) (by assumption) ?_); rotate_left; focus (intro wS hSw; (try dsimp only at hSw); go_simp; first | done | with_reducible rfl); try simp only [Act.put, List.setIfInBounds_toArray, List.set_cons_zero, List.set_cons_succ])
        ((refine wpAnyH_take (i := 20) (v := ?_) (by (simp only [List.getElem?_toArray, List.getElem?_cons_succ, List.getElem?_cons_zero]); rfl) (by kernel_rfl) (by kernel_rfl) (by kernel_rfl) (by exact fun _ _ _ h => h) (Or.inl ⟨by rfl, ?_⟩) (by assumption) ?_); rotate_left; focus (intro wS hSw; (try dsimp only at hSw); go_simp; first | done | with_reducible rfl); try simp only [Act.put, List.setIfInBounds_toArray, List.set_cons_zero, List.set_cons_succ])
        refine wpAnyH_done (by kernel_rfl) ?_ _
        try simp only [Act.put, List.setIfInBounds_toArray, List.set_cons_zero, List.set_cons_succ]
        go_wp2_with fail
        go_ret
        exact ⟨rfl, HB.out⟩
theorem cmd_inv {W : World} {x : Dt} (h : Fits Try.prog W 52 x) : ∃ (kd cli nu te ra bu sh ep le sz sp : Int) (cl : Bool) (vi : Value) (l : List Int), x.cells = [.int .i8 kd, .int .i64 cli, .int .i64 nu, .int .i64 te, .int .i64 ra, .int .i64 bu, .int .i64 sh, .int .i64 ep, .int .i64 le, .int .i64 sz, .int .i64 sp, .bool cl, vi] ∧ InV W vi l ∧ ((-9223372036854775808 ≤ sh ∧ sh ≤ 9223372036854775807) ∧ (-9223372036854775808 ≤ ep ∧ ep ≤ 9223372036854775807) ∧ (-9223372036854775808 ≤ nu ∧ nu ≤ 9223372036854775807) ∧ (-9223372036854775808 ≤ te ∧ te ≤ 9223372036854775807)) ∧ (-9223372036854775808 ≤ sp ∧ sp ≤ 9223372036854775807) := by
  obtain ⟨l, rfl, hl2, hl3⟩ := h.agg_inv Try.underlying52
  obtain ⟨y0, e0, f0⟩ := hl3 0 _ rfl
  obtain ⟨y1, e1, f1⟩ := hl3 1 _ rfl
  obtain ⟨y2, e2, f2⟩ := hl3 2 _ rfl
  obtain ⟨y3, e3, f3⟩ := hl3 3 _ rfl
  obtain ⟨y4, e4, f4⟩ := hl3 4 _ rfl
  obtain ⟨y5, e5, f5⟩ := hl3 5 _ rfl
  obtain ⟨y6, e6, f6⟩ := hl3 6 _ rfl
  obtain ⟨y7, e7, f7⟩ := hl3 7 _ rfl
  obtain ⟨y8, e8, f8⟩ := hl3 8 _ rfl
  obtain ⟨y9, e9, f9⟩ := hl3 9 _ rfl
  obtain ⟨y10, e10, f10⟩ := hl3 10 _ rfl
  obtain ⟨y11, e11, f11⟩ := hl3 11 _ rfl
  obtain ⟨y12, e12, f12⟩ := hl3 12 _ rfl
  obtain ⟨n0, rfl, g0⟩ := f0.int_inv Try.underlying50
  obtain ⟨n1, rfl, g1⟩ := f1.int_inv Try.underlying3
  obtain ⟨n2, rfl, g2⟩ := f2.int_inv Try.underlying3
  obtain ⟨n3, rfl, g3⟩ := f3.int_inv Try.underlying3
  obtain ⟨n4, rfl, g4⟩ := f4.int_inv Try.underlying3
  obtain ⟨n5, rfl, g5⟩ := f5.int_inv Try.underlying3
  obtain ⟨n6, rfl, g6⟩ := f6.int_inv Try.underlying3
  obtain ⟨n7, rfl, g7⟩ := f7.int_inv Try.underlying3
  obtain ⟨n8, rfl, g8⟩ := f8.int_inv Try.underlying3
  obtain ⟨n9, rfl, g9⟩ := f9.int_inv Try.underlying3
  obtain ⟨n10, rfl, g10⟩ := f10.int_inv Try.underlying3
  obtain ⟨n11, rfl⟩ := f11.bool_inv Try.underlying4
  obtain ⟨la, ll, lc, ly, rfl, g12⟩ := f12.slice_inv Try.underlying45
  obtain ⟨L, q, hL⟩ := inv_cells W g12
  match l, hl2 with
  | [z0, z1, z2, z3, z4, z5, z6, z7, z8, z9, z10, z11, z12], _ =>
    obtain rfl : z0 = _ := by simpa using e0
    obtain rfl : z1 = _ := by simpa using e1
    obtain rfl : z2 = _ := by simpa using e2
    obtain rfl : z3 = _ := by simpa using e3
    obtain rfl : z4 = _ := by simpa using e4
    obtain rfl : z5 = _ := by simpa using e5
    obtain rfl : z6 = _ := by simpa using e6
    obtain rfl : z7 = _ := by simpa using e7
    obtain rfl : z8 = _ := by simpa using e8
    obtain rfl : z9 = _ := by simpa using e9
    obtain rfl : z10 = _ := by simpa using e10
    obtain rfl : z11 = _ := by simpa using e11
    obtain rfl : z12 = _ := by simpa using e12
    exact ⟨n0, n1, n2, n3, n4, n5, n6, n7, n8, n9, n10, n11, _, L, rfl, hL, ⟨⟨g6.1, g6.2⟩, ⟨g7.1, g7.2⟩, ⟨g2.1, g2.2⟩, ⟨g3.1, g3.2⟩⟩, g10.1, g10.2⟩
theorem ledgerCap_dt (x y : Dt) (tk : Int) (w : World) (hx : Fits Try.prog w 27 x) (hy : Fits Try.prog w 52 y) : Calls Try.prog 7 #[.agg x.cells.toArray, .agg y.cells.toArray, .int .i64 tk] w fun e w' => e = .returned (.bool true) ∧ Below w.heap.size w w' := by
  obtain ⟨s, l, e, h⟩ := state_inv hx
  obtain ⟨kd, cli, nu, te, ra, bu, sh, ep, le, sz, sp, cl, vi, L, e2, hL, hb, hs⟩ := cmd_inv hy
  rw [e, e2]
  exact ledgerCap_walk _ _ s kd cli nu te ra bu sh ep le sz sp cl L tk w h hL hb hs
end Go.Proofs.Ytfgnjpdlchimpaa
