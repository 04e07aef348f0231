/-
  drop: a file taken away; Remove and Rename of package disk, by their contracts.
-/
import Derived.Test.YtgbbbjddooiaeaaDelete
namespace Go.Proofs.Ytgbbbjddooiaeaa
open Go.RowKit

theorem whereD_hit {w : World} {D : Nat} {p : Place} {d : PD} {fv pv : Value} (h : DRep w D p d fv pv) (s : ByteArray) (k : Nat) (hf : d.find s = some k) :
    Calls Try.prog 68 #[fv, .string s, .func (.func 69) #[] #[]] w fun r w' => r = .returned (.int .i64 k) ∧ w = w' := by
  obtain ⟨hkd, hname, hno⟩ := PD.find_some hf
  have hlen := h.files.length
  have hk : k < p.files.length := by omega
  have hrow := h.row
  have h64 := h.few
  obtain ⟨a, cap, rfl, hcap, hmax, ha⟩ := hrow.shape
  obtain ⟨R, hR, hx1, hx2⟩ := hrow.cell k (by omega)
  rw [hR] at ha hrow
  simp only [Option.map_some] at ha
  subst ha
  refine whereF_hit R cap p.files.length k (fun j => (p.files.getD j (0, none)).1) (fun j => (d.files.map (·.name)).getD j ByteArray.empty) s w (by omega) hk (fun j hj => ?_) (fun j hj => ?_) ?_ (fun j hj => ?_)
  · obtain ⟨g, hg, hc, _⟩ := hrow.cell j (by omega)
    obtain rfl := Option.some.inj hg
    rw [hc]
    simp [ptrs, List.getD, List.getElem?_eq_getElem hj]
  · obtain ⟨v, n, xs, hb, _⟩ := h.files.get j hj (by omega)
    have : (p.files.getD j (0, none)) = p.files[j] := by simp [List.getD, List.getElem?_eq_getElem hj]
    rw [this, cell_at hb 0]
    simp [List.getD, List.getElem?_eq_getElem (show j < d.files.length by omega)]
  · rw [← hname]; simp [List.getD, List.getElem?_eq_getElem hkd]
  · have := hno j hj
    simpa [List.getD, List.getElem?_eq_getElem (show j < d.files.length by omega)] using this

theorem whereD_miss {w : World} {D : Nat} {p : Place} {d : PD} {fv pv : Value} (h : DRep w D p d fv pv) (s : ByteArray) (hf : d.find s = none) :
    Calls Try.prog 68 #[fv, .string s, .func (.func 69) #[] #[]] w fun r w' => r = .returned (.int .i64 (-1)) ∧ w = w' := by
  have hno := PD.find_none hf
  have hlen := h.files.length
  have hrow := h.row
  have h64 := h.few
  obtain ⟨a, cap, rfl, hcap, hmax, ha⟩ := hrow.shape
  exact whereF_miss a (p.row.getD 0) cap p.files.length (fun j => (p.files.getD j (0, none)).1) (fun j => (d.files.map (·.name)).getD j ByteArray.empty) s w (by omega)
    (fun h0 => by obtain ⟨R, hR, _, _⟩ := hrow.cell 0 (by omega); rw [ha, hR]; rfl)
    (fun j hj => by
      obtain ⟨g, hg, hc, _⟩ := hrow.cell j (by omega)
      rw [hg]
      simp only [Option.getD_some]
      rw [hc]
      simp [ptrs, List.getD, List.getElem?_eq_getElem hj])
    (fun j hj => by
      obtain ⟨v, n, xs, hb, _⟩ := h.files.get j hj (by omega)
      have : (p.files.getD j (0, none)) = p.files[j] := by simp [List.getD, List.getElem?_eq_getElem hj]
      rw [this, cell_at hb 0]
      simp [List.getD, List.getElem?_eq_getElem (show j < d.files.length by omega)])
    (fun j hj => by
      have := hno j (by omega)
      simpa [List.getD, List.getElem?_eq_getElem (show j < d.files.length by omega)] using this)

theorem map_erase {α β : Type} (f : α → β) : ∀ (l : List α) (k : Nat), (l.map f).eraseIdx k = (l.eraseIdx k).map f
  | [], k => by simp
  | x :: l, 0 => by simp
  | x :: l, k + 1 => by simp [map_erase f l k]
theorem count_erase (a : Nat) : ∀ (ps : List (Nat × Option Nat)) (k : Nat), ((ps.eraseIdx k).flatMap foot1).count a ≤ (ps.flatMap foot1).count a
  | [], k => by simp
  | p :: ps, 0 => by simp only [List.eraseIdx_cons_zero, List.flatMap_cons, List.count_append]; omega
  | p :: ps, k + 1 => by
    have := count_erase a ps k
    simp only [List.eraseIdx_cons_succ, List.flatMap_cons, List.count_append]
    omega

theorem All2.erase {α β : Type} {r : α → β → Prop} {l : List α} {m : List β} (h : All2 r l m) (k : Nat) : All2 r (l.eraseIdx k) (m.eraseIdx k) := by
  induction h generalizing k with
  | nil => exact .nil
  | cons a hr ih =>
    cases k with
    | zero => exact hr
    | succ k => exact .cons a (ih k)

/-- A row of the disk is read whole: the row behind it, and the block of the disk with the new row's value. -/
theorem DRep.setRow {w w2 : World} {D : Nat} {p : Place} {d : PD} {fv pv : Value} (h : DRep w D p d fv pv) (R k : Nat) (hR : p.row = some R) (hFr : Fr [R] w w2) (v' : Value)
    (hrow : Row w2 v' (some R) 69 1 (p.files.eraseIdx k).length (ptrs (p.files.eraseIdx k))) :
    DRep (w2.setCell ⟨D, 0, none⟩ v') D { p with files := p.files.eraseIdx k } { d with files := d.files.eraseIdx k } v' pv ∧ Fr (p.foot D) w (w2.setCell ⟨D, 0, none⟩ v') ∧ ∀ x ∈ ({ p with files := p.files.eraseIdx k } : Place).foot D, x ∈ p.foot D := by
  obtain ⟨n1, n2, n3⟩ := h.row_ne
  obtain ⟨l1, l2, l3, l4⟩ := h.lts
  have hRD : R ≠ D := fun e => n1 (by rw [hR, e])
  have hne : ∀ x, x < w.heap.size → x ≠ D → x ≠ R → (w2.setCell ⟨D, 0, none⟩ v').heap[x]? = w.heap[x]? := fun x hx hD hxR => by
    rw [heap_setCell_ne _ _ _ _ hD, hFr.block x hx (by simpa using hxR)]
  have hD2 : w2.heap[D]? = w.heap[D]? := hFr.block D l1 (by simpa using fun e => hRD e.symm)
  have hsub : ∀ x ∈ (p.files.eraseIdx k).flatMap foot1, x ∈ p.files.flatMap foot1 := fun x hx => by
    obtain ⟨q, hq, hxq⟩ := List.mem_flatMap.1 hx
    exact List.mem_flatMap.2 ⟨q, List.mem_of_mem_eraseIdx hq, hxq⟩
  refine ⟨⟨?_, ?_, ?_, ?_, ?_, ?_, ?_, h.passes, h.keeps, h.short⟩, ?_, fun x hx => ?_⟩
  · have := heap_setCell_same (hD2.trans h.head) 0 v'
    simpa using this
  · rw [hR]
    exact hrow.congr fun g hg => heap_setCell_ne _ _ _ _ (by obtain rfl := Option.some.inj hg; exact hRD)
  · refine (h.files.erase k).imp fun a b ha hr => hr.congr fun x hx => ?_
    have hm : x ∈ p.files.flatMap foot1 := hsub x (List.mem_flatMap.2 ⟨a, ha, hx⟩)
    exact hne x (l3 x hm) (n2 x hm).1 (fun e => (n2 x hm).2 (by rw [hR, e]))
  · exact h.plan.congr fun g hg => hne g (l4 g (by simp [hg])) (n3 g (by simp [hg])).1 (fun e => (n3 g (by simp [hg])).2.1 (by rw [hR, e]))
  · rw [List.nodup_iff_count]
    intro a
    have hn := (List.nodup_iff_count.1 h.apart) a
    have := count_erase a p.files k
    simp only [Place.foot, List.count_cons, List.count_append] at hn ⊢
    omega
  · have := h.few
    have h2 := List.length_eraseIdx_le d.files k
    simp only; omega
  · exact List.Sublist.nodup ((List.eraseIdx_sublist d.files k).map _) h.names
  · refine Fr.setCell (hFr.mono fun x hx => .inl ?_) _ (.inl (by simp [Place.foot])) _
    simp only [List.mem_singleton] at hx
    subst hx
    simp [Place.foot, hR]
  · simp only [Place.foot, List.mem_cons, List.mem_append] at hx ⊢
    rcases hx with hx | hx | hx | hx
    · exact .inl hx
    · exact .inr (.inl hx)
    · exact .inr (.inr (.inl (hsub x hx)))
    · exact .inr (.inr (.inr hx))

set_option maxHeartbeats 1000000 in
/-- drop, where the file is: the others lie where they lay. -/
theorem drop_hit {w : World} {D : Nat} {p : Place} {d : PD} {fv pv : Value} (h : DRep w D p d fv pv) (s : ByteArray) (k : Nat) (hf : d.find s = some k) :
    Calls Try.prog 59 #[.pointer (some ⟨D, 0, none⟩), .string s] w fun r w' => r = .returned (.tuple #[]) ∧ ∃ fv', DRep w' D { p with files := p.files.eraseIdx k } { d with files := d.files.eraseIdx k } fv' pv ∧ Fr (p.foot D) w w' ∧ ∀ x ∈ ({ p with files := p.files.eraseIdx k } : Place).foot D, x ∈ p.foot D := by
  have hw := whereD_hit h s k hf
  obtain ⟨hkd, hx1, hx2⟩ := PD.find_some hf
  clear hx1 hx2
  have hlen := h.files.length
  have h64 := h.few
  have hc0 := h.cells.1
  obtain ⟨n1, n2, n3⟩ := h.row_ne
  rcases h.row.cases with ⟨_, _, h0, _⟩ | ⟨R, cap, cur, hR, rfl, hr, hcap, hmax, hsz, htk⟩
  · omega
  obtain ⟨m, hm⟩ : ∃ m, p.files.length = k + m + 1 := ⟨p.files.length - k - 1, by omega⟩
  rw [hm] at hw hc0 htk hcap
  simp only [Nat.mul_one] at htk hsz
  have hdel := delete_any R cap k m cur w hr hsz hcap hmax (by rw [htk]; intro u hu; obtain ⟨q, _, rfl⟩ := List.mem_map.1 hu; rfl)
  have HD := Lib.hid h
  have HM := Lib.hid hm
  have HR := Lib.hid hR
  have HT := Lib.hid htk
  have HC := Lib.hid hcap
  have hRD : R ≠ D := fun e => n1 (by rw [hR, e])
  have hDlt := h.lts.1
  have hk64 : k ≤ 64 := by omega
  clear hr hlen hm htk hsz hf h hR n1 n2 n3 hkd
  go_enter Try.func59, Try.ntmps59
  go_wp2_with (first
    | (go_at_call 68; refine hw.mono ?_; rintro e w1 ⟨rfl, rfl⟩; clear hw)
    | (go_at_call 72; refine hdel.mono ?_; rintro e w2 ⟨rfl, cur2, hr2, hs2, ht2, hFr2⟩; clear hdel; have hb2 := (hFr2.block D hDlt (by simpa using fun e => hRD e.symm)).trans HD.out.head; have hf2 := free_at hb2 0; have hcc := cell_at hb2 0; have HT2 := Lib.hid ht2; clear ht2 hb2))
  go_end0
  refine ⟨rfl, _, HD.out.setRow R k HR.out hFr2 (.slice (some ⟨R, 0, none⟩) (k + m) cap) ?_⟩
  have hl : (p.files.eraseIdx k).length = k + m := by rw [List.length_eraseIdx, if_pos (by have := HM.out; omega), HM.out]; omega
  rw [hl]
  refine Row.mk hr2 (by have := HC.out; omega) hmax (by rw [hs2, Nat.mul_one]) ?_
  rw [Nat.mul_one, HT2.out, HT.out]
  exact map_erase _ _ _

theorem drop_miss {w : World} {D : Nat} {p : Place} {d : PD} {fv pv : Value} (h : DRep w D p d fv pv) (s : ByteArray) (hf : d.find s = none) :
    Calls Try.prog 59 #[.pointer (some ⟨D, 0, none⟩), .string s] w fun r w' => r = .returned (.tuple #[]) ∧ w = w' := by
  have hw := whereD_miss h s hf
  have hc0 := h.cells.1
  clear hf h
  go_enter Try.func59, Try.ntmps59
  go_wp2_with (go_at_call 68; refine hw.mono ?_; rintro e w1 ⟨rfl, rfl⟩; clear hw)
  go_end0
  exact ⟨rfl, rfl⟩

/-- A file taken away. -/
def PD.drop (d : PD) (s : ByteArray) : PD :=
  match d.find s with
  | .none => d
  | .some k => { d with files := d.files.eraseIdx k }

def PD.remove (d : PD) (s : ByteArray) : PD × Int :=
  match d.find s with
  | .none => (d, fst0 [d.word, 4])
  | .some _ => if d.down then (d, 5) else (d.drop s, 0)

theorem names_at {d : PD} (hn : (d.files.map (·.name)).Nodup) {i j : Nat} (hi : i < d.files.length) (hj : j < d.files.length) (h : d.files[i].name = d.files[j].name) : i = j := by
  rcases Nat.lt_trichotomy i j with hij | hij | hij
  · have := List.pairwise_iff_getElem.1 (List.nodup_iff_pairwise_ne.1 hn) i j (by simpa using hi) (by simpa using hj) hij
    simp only [List.getElem_map] at this
    exact absurd h this
  · exact hij
  · have := List.pairwise_iff_getElem.1 (List.nodup_iff_pairwise_ne.1 hn) j i (by simpa using hj) (by simpa using hi) hij
    simp only [List.getElem_map] at this
    exact absurd h.symm this

theorem find_of {d : PD} (hn : (d.files.map (·.name)).Nodup) {k : Nat} (hk : k < d.files.length) : d.find d.files[k].name = some k := by
  cases h : d.find d.files[k].name with
  | none => exact absurd rfl (PD.find_none h k hk)
  | some j =>
    obtain ⟨hj, h1, _⟩ := PD.find_some h
    rw [names_at hn hj hk h1]

set_option maxHeartbeats 1000000 in
theorem remove_any {w : World} {D : Nat} {l : List Nat} {d : PD} (h : Disk w D l d) (s : ByteArray) :
    Calls Try.prog 33 #[.pointer (some ⟨D, 0, none⟩), .string s] w fun r w' => r = .returned (.int .i64 (d.remove s).2) ∧ To D l w (d.remove s).1 w' := by
  obtain ⟨p, fv, pv, h, rfl⟩ := h
  have HD := Lib.hid h
  cases hf : d.find s with
  | none =>
    have e : d.remove s = (d, fst0 [d.word, 4]) := by simp [PD.remove, hf]
    rw [e]
    have hfi := find_miss h s hf
    have hla := lacks_miss h
    have hne : (fst0 [d.word, 4] == 0) = false := by have := miss_ne d; simpa using this
    obtain ⟨c, hc⟩ : ∃ c, c = fst0 [d.word, 4] := ⟨_, rfl⟩
    rw [← hc] at hla hne ⊢
    clear e hf h hc
    go_enter Try.func33, Try.ntmps33
    go_wp2_with (first
      | (go_at_call 49; refine hfi.mono ?_; rintro e w1 ⟨rfl, rfl⟩; clear hfi)
      | (go_at_call 50; refine hla.mono ?_; rintro e w1 ⟨rfl, hB⟩; clear hla))
    go_ret
    exact ⟨rfl, To.same ⟨p, fv, pv, HD.out, rfl⟩ hB⟩
  | some k =>
    obtain ⟨hk, hfi⟩ := find_hit h s k hf
    have hla := lacks_hit h (p.files[k]).1
    obtain ⟨F, hF⟩ : ∃ F, F = (p.files[k]).1 := ⟨_, rfl⟩
    rw [← hF] at hfi hla
    cases hd : d.down with
    | true =>
      have e : d.remove s = (d, 5) := by simp [PD.remove, hf, hd]
      rw [e]
      rw [word_down hd] at hla
      clear e hf h hd hF
      go_enter Try.func33, Try.ntmps33
      go_wp2_with (first
        | (go_at_call 49; refine hfi.mono ?_; rintro e w1 ⟨rfl, rfl⟩; clear hfi)
        | (go_at_call 50; refine hla.mono ?_; rintro e w1 ⟨rfl, hB⟩; clear hla))
      go_ret
      exact ⟨rfl, To.same ⟨p, fv, pv, HD.out, rfl⟩ hB⟩
    | false =>
      have e : d.remove s = ({ d with files := d.files.eraseIdx k }, 0) := by simp [PD.remove, PD.drop, hf, hd]
      rw [e]
      rw [word_up hd] at hla
      have hdr : ∀ w1, Below w.heap.size w w1 → Calls Try.prog 59 #[.pointer (some ⟨D, 0, none⟩), .string s] w1 fun r w' => r = .returned (.tuple #[]) ∧ To D (p.foot D) w1 { d with files := d.files.eraseIdx k } w' := fun w1 hB =>
        (drop_hit (h.below hB) s k hf).mono fun _ _ ⟨h1, fv', h2, h3, h4⟩ => ⟨h1, _, ⟨_, fv', pv, h2, rfl⟩, h3, fun x hx => .inl (h4 x hx)⟩
      clear e hf h hd hF
      go_enter Try.func33, Try.ntmps33
      go_wp2_with (first
        | (go_at_call 49; refine hfi.mono ?_; rintro e w1 ⟨rfl, rfl⟩; clear hfi)
        | (go_at_call 50; refine hla.mono ?_; rintro e w1 ⟨rfl, hB⟩; clear hla)
        | (go_at_call 59; refine Calls.mono (hdr _ hB) ?_; clear hdr; rintro e w2 ⟨rfl, hT⟩))
      go_ret
      exact ⟨rfl, To.from_below hB hT⟩

end Go.Proofs.Ytgbbbjddooiaeaa
