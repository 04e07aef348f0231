/-
  Rename of package disk, by its contract.
-/
import Derived.Test.YtgbbbjddooiaeaaDrop
namespace Go.Proofs.Ytgbbbjddooiaeaa
open Go.RowKit

def PD.rename (d : PD) (a b : ByteArray) : PD × Int :=
  match d.find a with
  | .none => (d, fst0 [d.word, 4])
  | .some _ => if d.down then (d, 5) else if nameB b = false then (d, 2) else if a = b then (d, 0) else
    match (d.drop b).find a with
    | .none => (d.drop b, 0)
    | .some k => ((d.drop b).upd k fun f => { f with name := b }, 0)

theorem drop_names {d : PD} (hn : (d.files.map (·.name)).Nodup) (b : ByteArray) : ∀ j (hj : j < (d.drop b).files.length), (d.drop b).files[j].name ≠ b := by
  unfold PD.drop
  cases h : d.find b with
  | none => exact fun j hj => PD.find_none h j hj
  | some k =>
    obtain ⟨hk, h1, h2⟩ := PD.find_some h
    intro j hj e
    simp only [List.length_eraseIdx, if_pos hk] at hj
    simp only [List.getElem_eraseIdx] at e
    split at e
    · exact absurd (names_at hn (by omega) hk (e.trans h1.symm)) (by omega)
    · exact absurd (names_at hn (by omega) hk (e.trans h1.symm)) (by omega)

theorem drop_nodup {d : PD} (hn : (d.files.map (·.name)).Nodup) (b : ByteArray) : ((d.drop b).files.map (·.name)).Nodup := by
  unfold PD.drop
  cases h : d.find b with
  | none => exact hn
  | some k => exact List.Sublist.nodup ((List.eraseIdx_sublist d.files k).map _) hn

theorem FRep.setName {w : World} {F : Nat} {g : Option Nat} {f : PF} (h : FRep w (F, g) f) (b : ByteArray) (hb : nameB b = true) (hgF : g ≠ some F) : FRep (w.setCell ⟨F, 0, none⟩ (.string b)) (F, g) { f with name := b } := by
  obtain ⟨v, m, xs, hc, hrow, hbl, h1, h2, h3⟩ := h
  refine ⟨v, m, xs, ?_, hrow.congr fun x hx => heap_setCell_ne _ _ _ _ (fun e => hgF (by have e' : x = F := e; rw [← e']; exact hx)), hbl, hb, h2, h3⟩
  have := heap_setCell_same hc 0 (.string b)
  simpa using this

/-- drop of another name: where a file lies then. -/
theorem drop_keep {w : World} {D : Nat} {p : Place} {d : PD} {fv pv : Value} (h : DRep w D p d fv pv) (a b : ByteArray) (hab : a ≠ b) (k : Nat) (hk : k < p.files.length) (hf : d.find a = some k) :
    Calls Try.prog 59 #[.pointer (some ⟨D, 0, none⟩), .string b] w fun r w' => r = .returned (.tuple #[]) ∧ ∃ (p1 : Place) (fv1 : Value) (k1 : Nat) (hk1 : k1 < p1.files.length),
      DRep w' D p1 (d.drop b) fv1 pv ∧ p1.files[k1] = p.files[k] ∧ (d.drop b).find a = some k1 ∧ Fr (p.foot D) w w' ∧ ∀ x ∈ p1.foot D, x ∈ p.foot D := by
  obtain ⟨hkd, hna, _⟩ := PD.find_some hf
  have hlen := h.files.length
  cases hb : d.find b with
  | none =>
    have e : d.drop b = d := by simp [PD.drop, hb]
    rw [e]
    exact (drop_miss h b hb).mono fun r w' ⟨h1, h2⟩ => ⟨h1, p, fv, k, hk, by subst h2; exact h, rfl, hf, by subst h2; exact Fr.refl _ _, fun _ hx => hx⟩
  | some j =>
    have e : d.drop b = { d with files := d.files.eraseIdx j } := by simp [PD.drop, hb]
    obtain ⟨hjd, hnb, _⟩ := PD.find_some hb
    have hjk : j ≠ k := fun e => hab (by subst e; rw [← hna, hnb])
    refine (drop_hit h b j hb).mono fun r w' ⟨h1, fv1, h2, h3, h4⟩ => ?_
    have hn2 := drop_nodup h.names b
    rw [e] at hn2 ⊢
    have hl : (p.files.eraseIdx j).length = p.files.length - 1 := by rw [List.length_eraseIdx, if_pos (by omega)]
    have hld : (d.files.eraseIdx j).length = d.files.length - 1 := by rw [List.length_eraseIdx, if_pos (by omega)]
    by_cases hlt : k < j
    · refine ⟨h1, _, fv1, k, by simp only; omega, h2, ?_, ?_, h3, h4⟩
      · simp only [List.getElem_eraseIdx, dif_pos hlt]
      · have := find_of (d := { d with files := d.files.eraseIdx j }) hn2 (k := k) (by simp only; omega)
        simp only [List.getElem_eraseIdx, dif_pos hlt, hna] at this
        exact this
    · refine ⟨h1, _, fv1, k - 1, by simp only; omega, h2, ?_, ?_, h3, h4⟩
      · simp only [List.getElem_eraseIdx, dif_neg (show ¬ k - 1 < j by omega), show k - 1 + 1 = k by omega]
      · have := find_of (d := { d with files := d.files.eraseIdx j }) hn2 (k := k - 1) (by simp only; omega)
        simp only [List.getElem_eraseIdx, dif_neg (show ¬ k - 1 < j by omega), show k - 1 + 1 = k by omega, hna] at this
        exact this

set_option maxHeartbeats 2000000 in
theorem rename_any {w : World} {D : Nat} {l : List Nat} {d : PD} (h : Disk w D l d) (a b : ByteArray) (hbl : b.size ≤ maxLen) :
    Calls Try.prog 28 #[.pointer (some ⟨D, 0, none⟩), .string a, .string b] w fun r w' => r = .returned (.int .i64 (d.rename a b).2) ∧ To D l w (d.rename a b).1 w' := by
  obtain ⟨p, fv, pv, h, rfl⟩ := h
  have HD := Lib.hid h
  have hin : ∀ w1, Calls Try.prog 54 #[.string b] w1 fun r w' => r = .returned (.bool (nameB b)) ∧ w1 = w' := fun w1 => isName_any b w1 hbl
  obtain ⟨nb, hnb⟩ : ∃ nb, nb = nameB b := ⟨_, rfl⟩
  rw [← hnb] at hin
  cases hf : d.find a with
  | none =>
    have e : d.rename a b = (d, fst0 [d.word, 4]) := by simp [PD.rename, hf]
    rw [e]
    have hfi := find_miss h a hf
    have hla := lacks_miss h
    have hne : (fst0 [d.word, 4] == 0) = false := by have := miss_ne d; simpa using this
    have HNE := Lib.hid (fst0_nest d (whenE (!nb) 2))
    obtain ⟨c, hc⟩ : ∃ c, c = fst0 [d.word, 4] := ⟨_, rfl⟩
    rw [← hc] at hla hne HNE ⊢
    clear e hf h hc hnb
    go_enter Try.func28, Try.ntmps28
    go_wp2_with (first
      | (go_at_call 49; refine hfi.mono ?_; rintro e w1 ⟨rfl, rfl⟩; clear hfi)
      | (go_at_call 50; refine hla.mono ?_; rintro e w1 ⟨rfl, hB⟩; clear hla)
      | (go_at_call 54; refine Calls.mono (hin _) ?_; clear hin; rintro e w1 ⟨rfl, rfl⟩)
      | (go_at_call 53; refine (when_any _ _ _).mono ?_; rintro e w1 ⟨rfl, rfl⟩)
      | (go_at_call 47; (with_reducible refine (first_two _ _ c _ HNE.out).mono ?_); rintro e w' ⟨rfl, rfl⟩))
    go_ret
    exact ⟨rfl, To.same ⟨p, fv, pv, HD.out, rfl⟩ (hB.alloc hB.size _)⟩
  | some k =>
    obtain ⟨hk, hfi⟩ := find_hit h a k hf
    have hla := lacks_hit h (p.files[k]).1
    obtain ⟨F, g, hFg⟩ : ∃ F g, p.files[k] = (F, g) := ⟨_, _, rfl⟩
    rw [hFg] at hfi hla
    by_cases hbad : d.down = true ∨ nb = false
    · obtain ⟨c, hc⟩ : ∃ c, c = (if d.down = true then (5 : Int) else 2) := ⟨_, rfl⟩
      have e : d.rename a b = (d, c) := by
        unfold PD.rename
        rw [hf]
        simp only [← hnb]
        cases hd : d.down with
        | true => simp [hc, hd]
        | false =>
          rcases hbad with hb | hb
          · rw [hd] at hb; cases hb
          · simp [hc, hd, hb]
      rw [e]
      have hne : (c == 0) = false := by rw [hc]; split <;> rfl
      have HNE : Hid (fst0 [d.word, whenE (!nb) 2] = c) := by
        show _ = _
        rw [hc]
        cases hd : d.down with
        | true => simp [word_down hd, fst0]
        | false =>
          rcases hbad with hb | hb
          · rw [hd] at hb; cases hb
          · simp [word_up hd, fst0, whenE, hb]
      obtain ⟨x, hx⟩ : ∃ x, x = d.word := ⟨_, rfl⟩
      rw [← hx] at hla HNE
      clear e hf h hc hx hbad hFg hnb
      go_enter Try.func28, Try.ntmps28
      go_wp2_with (first
        | (go_at_call 49; refine hfi.mono ?_; rintro e w1 ⟨rfl, rfl⟩; clear hfi)
        | (go_at_call 50; refine hla.mono ?_; rintro e w1 ⟨rfl, hB⟩; clear hla)
        | (go_at_call 54; refine Calls.mono (hin _) ?_; clear hin; rintro e w1 ⟨rfl, rfl⟩)
        | (go_at_call 53; refine (when_any _ _ _).mono ?_; rintro e w1 ⟨rfl, rfl⟩)
        | (go_at_call 47; (with_reducible refine (first_two _ _ c _ HNE.out).mono ?_); rintro e w' ⟨rfl, rfl⟩))
      go_ret
      exact ⟨rfl, To.same ⟨p, fv, pv, HD.out, rfl⟩ (hB.alloc hB.size _)⟩
    · have hup : d.down = false := by cases hd : d.down <;> simp_all
      have hnt : nb = true := by cases nb <;> simp_all
      subst hnt
      rw [word_up hup] at hla
      have HNE : Hid (fst0 [0, whenE false 2] = 0) := show _ = _ by decide
      by_cases hab : a = b
      · have e : d.rename a b = (d, 0) := by
          unfold PD.rename
          rw [hf]
          simp only [← hnb, hup, hab]
          simp
        rw [e]
        have ht := str_eq hab
        clear e hf h hFg hnb hbad hup hab
        go_enter Try.func28, Try.ntmps28
        go_wp2_with (first
          | (go_at_call 49; refine hfi.mono ?_; rintro e w1 ⟨rfl, rfl⟩; clear hfi)
          | (go_at_call 50; refine hla.mono ?_; rintro e w1 ⟨rfl, hB⟩; clear hla)
          | (go_at_call 54; refine Calls.mono (hin _) ?_; clear hin; rintro e w1 ⟨rfl, rfl⟩)
          | (go_at_call 53; refine (when_any _ _ _).mono ?_; rintro e w1 ⟨rfl, rfl⟩)
          | (go_at_call 47; (with_reducible refine (first_two _ _ 0 _ HNE.out).mono ?_); rintro e w' ⟨rfl, rfl⟩))
        go_ret
        exact ⟨rfl, To.same ⟨p, fv, pv, HD.out, rfl⟩ (hB.alloc hB.size _)⟩
      · have ht := str_ne hab
        have hdr : ∀ w1, Below w.heap.size w w1 → Calls Try.prog 59 #[.pointer (some ⟨D, 0, none⟩), .string b] w1 fun r w' => r = .returned (.tuple #[]) ∧ (w'.frozen? ⟨F, 0, none⟩ = false ∧ ∃ u, w'.cell? ⟨F, 0, none⟩ = some (.string u)) ∧ Hid (To D (p.foot D) w1 (d.rename a b).1 (w'.setCell ⟨F, 0, none⟩ (.string b)) ∧ (d.rename a b).2 = 0) := fun w1 hB => by
          refine (drop_keep (h.below hB) a b hab k hk hf).mono ?_
          rintro r w2 ⟨h1, p1, fv1, k1, hk1, h2, h3, h4, h5, h6⟩
          obtain ⟨hkd1, hna1, _⟩ := PD.find_some h4
          have hF1 := h2.files.get k1 hk1 hkd1
          rw [h3, hFg] at hF1
          have hgF : g ≠ some F := by have := foot1_ne h.flat_nodup k hk; rw [hFg] at this; exact this
          refine ⟨h1, ⟨hF1.free 0, _, hF1.cell0⟩, ?_, ?_⟩
          · have er : (d.rename a b).1 = { d.drop b with files := (d.drop b).files.set k1 { (d.drop b).files[k1] with name := b } } := by
              unfold PD.rename
              rw [hf]
              simp only [← hnb, hup, if_neg hab, h4]
              simp [PD.upd, List.getElem?_eq_getElem hkd1]
            rw [er]
            have hS := h2.setFile (w2 := w2.setCell ⟨F, 0, none⟩ (.string b)) k1 hk1 hkd1 g { (d.drop b).files[k1] with name := b } (by rw [h3, hFg]; exact hF1.setName b hnb.symm hgF) ((Fr.refl _ _).setCell _ (.inl (by rw [h3, hFg]; simp [foot1])) _) (by rw [h3, hFg]; exact fun x hx => .inl hx) (.inr (drop_names h.names b))
            refine ⟨_, ⟨_, fv1, pv, hS.1, rfl⟩, h5.trans hS.2.1 fun x hx => .inl (h6 x hx), fun x hx => ?_⟩
            rcases hS.2.2 x hx with e | e
            · exact .inl (h6 x e)
            · exact .inr (by have := h5.size; omega)
          · unfold PD.rename
            rw [hf]
            simp only [← hnb, hup, if_neg hab, h4]
            simp
        clear hf h hFg hnb hbad hup hab
        go_enter Try.func28, Try.ntmps28
        go_wp2_with (first
          | (go_at_call 49; refine hfi.mono ?_; rintro e w1 ⟨rfl, rfl⟩; clear hfi)
          | (go_at_call 50; refine hla.mono ?_; rintro e w1 ⟨rfl, hB⟩; clear hla)
          | (go_at_call 54; refine Calls.mono (hin _) ?_; clear hin; rintro e w1 ⟨rfl, rfl⟩)
          | (go_at_call 53; refine (when_any _ _ _).mono ?_; rintro e w1 ⟨rfl, rfl⟩)
          | (go_at_call 47; (with_reducible refine (first_two _ _ 0 _ HNE.out).mono ?_); rintro e w' ⟨rfl, rfl⟩)
          | (go_at_call 59; refine Calls.mono (hdr _ (hB.alloc hB.size _)) ?_; clear hdr; rintro e w2 ⟨rfl, ⟨hfr2, u2, hc2⟩, hT⟩))
        go_ret
        exact ⟨ret_int hT.out.2.symm, To.from_below (hB.alloc hB.size _) hT.out.1⟩

end Go.Proofs.Ytgbbbjddooiaeaa
