/-
  Sync, Sure and Cut of package disk, by their contracts.
-/
import Derived.Test.YtgbbbjddooiaeaaSync
namespace Go.Proofs.Ytgbbbjddooiaeaa
open Go.RowKit

set_option maxHeartbeats 1000000 in
/-- burn, where it lets pass: the disk lies where it lay. -/
theorem burn_keep {w : World} {D : Nat} {p : Place} {d : PD} {fv pv : Value} (h : DRep w D p d fv pv) (hz : d.burn.2 = 0) :
    Calls Try.prog 58 #[.pointer (some ⟨D, 0, none⟩)] w fun r w' => r = .returned (.int .i64 0) ∧ DRep w' D p d.burn.1 fv pv ∧ Fr [D] w w' := by
  obtain ⟨hc0, hc1, hc2, hc3, hc4⟩ := h.cells
  have hf3 := h.free 3
  have hps := h.passes
  cases hlit : d.lit with
  | false =>
    have e : d.burn = (d, 0) := by simp [PD.burn, hlit]
    rw [e]
    rw [hlit] at hc2
    have HD := Lib.hid h
    clear e hlit h hz
    go_enter Try.func58, Try.ntmps58
    go_wp2
    go_ret
    exact ⟨rfl, HD.out, Fr.refl _ _⟩
  | true =>
    rw [hlit] at hc2
    by_cases hp : 0 < d.pass
    · have e : d.burn = ({ d with pass := d.pass - 1 }, 0) := by simp [PD.burn, hlit, hp]
      rw [e]
      obtain ⟨q, hq⟩ : ∃ q, d.pass = q + 1 := ⟨d.pass - 1, by omega⟩
      rw [hq] at hc3
      have HT : Hid (DRep (w.setCell ⟨D, 3, none⟩ (.int .i64 (q : Nat))) D p { d with pass := d.pass - 1 } fv pv) := by
        have hne : ∀ k, k ≠ D → (w.setCell ⟨D, 3, none⟩ (.int .i64 (q : Nat))).heap[k]? = w.heap[k]? := fun k hk => heap_setCell_ne _ _ _ _ hk
        obtain ⟨n1, n2, n3⟩ := h.row_ne
        refine ⟨?_, h.row.congr fun g hg => hne g (fun e => n1 (by rw [hg, e])), h.files.imp fun a b ha hr => hr.congr fun k hk => hne k (n2 k (List.mem_flatMap.2 ⟨a, ha, hk⟩)).1, h.plan.congr fun g hg => hne g (n3 g (by simp [hg])).1, h.apart, h.few, h.names, by simp only; omega, h.keeps, h.short⟩
        have := heap_setCell_same h.head 3 (.int .i64 (q : Nat))
        simpa [hq] using this
      have hq9 : q < 9223372036854775807 := by omega
      clear e hlit h hq hp hps hz
      go_enter Try.func58, Try.ntmps58
      go_wp2
      go_ret
      exact ⟨rfl, HT.out, (Fr.refl _ _).setCell _ (.inl (by simp)) _⟩
    · have e : d.burn = (d.fall d.plan, 5) := by simp [PD.burn, hlit, hp]
      rw [e] at hz
      cases hz

theorem burn_find (d : PD) (hz : d.burn.2 = 0) : d.burn.1.files = d.files := by
  unfold PD.burn at hz ⊢
  cases hl : d.lit
  · simp
  · by_cases hp : 0 < d.pass
    · simp [hp]
    · simp [hl, hp] at hz

theorem DRep.foot_sub {D : Nat} {p : Place} {k : Nat} (hk : k < p.files.length) : ∀ x ∈ foot1 p.files[k], x ∈ p.foot D := fun x hx => by
  simp only [Place.foot, List.mem_cons, List.mem_append]
  exact .inr (.inr (.inl (List.mem_flatMap.2 ⟨_, List.getElem_mem hk, hx⟩)))

theorem FRep.cell0 {w : World} {F : Nat} {g : Option Nat} {f : PF} (h : FRep w (F, g) f) : w.cell? ⟨F, 0, none⟩ = some (.string f.name) := by obtain ⟨v, n, xs, hb, _⟩ := h; exact cell_at hb 0
theorem FRep.cell2 {w : World} {F : Nat} {g : Option Nat} {f : PF} (h : FRep w (F, g) f) : w.cell? ⟨F, 2, none⟩ = some (.int .i64 (f.sure : Nat)) := by obtain ⟨v, n, xs, hb, _⟩ := h; exact cell_at hb 2
theorem FRep.free {w : World} {F : Nat} {g : Option Nat} {f : PF} (h : FRep w (F, g) f) (j : Nat) : w.frozen? ⟨F, j, none⟩ = false := by obtain ⟨v, n, xs, hb, _⟩ := h; exact free_at hb j

/-- A file of which the count of what is sure is written. -/
theorem FRep.setSure {w : World} {F : Nat} {g : Option Nat} {f : PF} (h : FRep w (F, g) f) (n : Nat) (hn : n ≤ f.text.length) (hgF : g ≠ some F) : FRep (w.setCell ⟨F, 2, none⟩ (.int .i64 (n : Nat))) (F, g) { f with sure := n } := by
  obtain ⟨v, m, xs, hb, hrow, hbl, h1, h2, h3⟩ := h
  refine ⟨v, m, xs, ?_, hrow.congr fun x hx => heap_setCell_ne _ _ _ _ (fun e => hgF (by have e' : x = F := e; rw [← e']; exact hx)), hbl, h1, hn, h3⟩
  have := heap_setCell_same hb 2 (.int .i64 (n : Nat))
  simpa using this

set_option maxHeartbeats 2000000 in
theorem sync_any {w : World} {D : Nat} {l : List Nat} {d : PD} (h : Disk w D l d) (s : ByteArray) :
    Calls Try.prog 27 #[.pointer (some ⟨D, 0, none⟩), .string s] w fun r w' => r = .returned (.int .i64 (d.sync s).2) ∧ To D l w (d.sync s).1 w' := by
  obtain ⟨p, fv, pv, h, rfl⟩ := h
  have HD := Lib.hid h
  cases hf : d.find s with
  | none =>
    have e : d.sync s = (d, fst0 [d.word, 4]) := by simp [PD.sync, hf]
    rw [e]
    have hfi := find_miss h s hf
    have hla := lacks_miss h
    have hne := miss_ne d
    obtain ⟨c, hc⟩ : ∃ c, c = fst0 [d.word, 4] := ⟨_, rfl⟩
    rw [← hc] at hla hne ⊢
    clear e hf h hc
    go_enter Try.func27, Try.ntmps27
    go_wp2_with (first
      | (go_at_call 49; refine hfi.mono ?_; rintro e w1 ⟨rfl, rfl⟩; clear hfi)
      | (go_at_call 50; refine hla.mono ?_; rintro e w1 ⟨rfl, hB⟩; clear hla))
    go_ret
    exact ⟨rfl, To.same ⟨p, fv, pv, HD.out, rfl⟩ hB⟩
  | some k =>
    obtain ⟨hk, hfi⟩ := find_hit h s k hf
    have hkd : k < d.files.length := by have := h.files.length; omega
    obtain ⟨F, g, hFg⟩ : ∃ F g, p.files[k] = (F, g) := ⟨_, _, rfl⟩
    rw [hFg] at hfi
    have hla := lacks_hit h F
    cases hd : d.down with
    | true =>
      have e : d.sync s = (d, 5) := by simp [PD.sync, hf, hd]
      rw [e]
      rw [word_down hd] at hla
      clear e hf h hd hFg
      go_enter Try.func27, Try.ntmps27
      go_wp2_with (first
        | (go_at_call 49; refine hfi.mono ?_; rintro e w1 ⟨rfl, rfl⟩; clear hfi)
        | (go_at_call 50; refine hla.mono ?_; rintro e w1 ⟨rfl, hB⟩; clear hla))
      go_ret
      exact ⟨rfl, To.same ⟨p, fv, pv, HD.out, rfl⟩ hB⟩
    | false =>
      rw [word_up hd] at hla
      by_cases hz : d.burn.2 = 0
      · have e : d.sync s = (d.burn.1.upd k fun f => { f with sure := f.text.length }, 0) := by simp [PD.sync, hf, hd, hz]
        rw [e]
        have hbf := burn_find d hz
        have hbu : ∀ w1, Below w.heap.size w w1 → Calls Try.prog 58 #[.pointer (some ⟨D, 0, none⟩)] w1 fun r w' => r = .returned (.int .i64 0) ∧ DRep w' D p d.burn.1 fv pv ∧ Fr [D] w1 w' := fun w1 hB => burn_keep (h.below hB) hz
        have hkb : k < d.burn.1.files.length := by rw [hbf]; exact hkd
        obtain ⟨f, hff⟩ : ∃ f, f = d.burn.1.files[k] := ⟨_, rfl⟩
        obtain ⟨L, hL⟩ : ∃ L, L = f.text.length := ⟨_, rfl⟩
        have hFR : ∀ w2, DRep w2 D p d.burn.1 fv pv → FRep w2 (F, g) f := fun w2 h2 => by
          have := h2.files.get k hk hkb
          rw [hFg, ← hff] at this; exact this
        have hsz : ∀ w2, DRep w2 D p d.burn.1 fv pv → Calls Try.prog 56 #[.pointer (some ⟨F, 0, none⟩)] w2 fun r w' => r = .returned (.int .i64 (L : Nat)) ∧ w2 = w' := fun w2 h2 => by
          rw [hL]; exact size_some (p := (F, g)) (hFR w2 h2)
        have HFg := Lib.hid hFg
        have HFF := Lib.hid hff
        have HL := Lib.hid hL
        clear e hf h hd hFg hff hL
        go_enter Try.func27, Try.ntmps27
        go_wp2_with (first
          | (go_at_call 49; refine hfi.mono ?_; rintro e w1 ⟨rfl, rfl⟩; clear hfi)
          | (go_at_call 50; refine hla.mono ?_; rintro e w1 ⟨rfl, hB⟩; clear hla)
          | (go_at_call 58; refine Calls.mono (hbu _ hB) ?_; clear hbu; rintro e w2 ⟨rfl, hD2, hFr2⟩; have hs2 := hsz w2 hD2; have hF2 := hFR w2 hD2; clear hsz; have hfr2 := hF2.free 2; have hcl2 := hF2.cell2)
          | (go_at_call 56; refine hs2.mono ?_; rintro e w3 ⟨rfl, rfl⟩; clear hs2))
        go_ret
        refine ⟨rfl, To.from_below hB (To.trans (l1 := p.foot D) (hFr2.mono fun x hx => .inl ?_) (fun x hx => .inl hx) ?_)⟩
        · simp only [List.mem_singleton] at hx; subst hx; simp [Place.foot]
        · have hgF : g ≠ some F := by have := foot1_ne hD2.flat_nodup k hk; rw [HFg.out] at this; exact this
          have hS := hD2.setFile (w2 := w2.setCell ⟨F, 2, none⟩ (.int .i64 (L : Nat))) k hk hkb g { f with sure := L } (by rw [HFg.out]; exact hF2.setSure L (by rw [HL.out]; exact Nat.le_refl _) hgF) ((Fr.refl _ _).setCell _ (.inl (by rw [HFg.out]; simp [foot1])) _) (by rw [HFg.out]; exact fun x hx => .inl hx) (.inl (by rw [HFF.out]))
          have eu : (d.burn.1.upd k fun f => { f with sure := f.text.length }) = { d.burn.1 with files := d.burn.1.files.set k { f with sure := L } } := by simp only [PD.upd, getD_at hkb, ← HFF.out, HL.out]
          rw [eu]
          exact ⟨_, ⟨_, fv, pv, hS.1, rfl⟩, hS.2.1, hS.2.2⟩
      · have e : d.sync s = d.burn := by simp [PD.sync, hf, hd, hz]
        rw [e]
        have hne : (d.burn.2 != 0) = true := by simpa using hz
        have hbu : ∀ w1, Below w.heap.size w w1 → Calls Try.prog 58 #[.pointer (some ⟨D, 0, none⟩)] w1 fun r w' => r = .returned (.int .i64 d.burn.2) ∧ To D (p.foot D) w1 d.burn.1 w' := fun w1 hB => burn_any ⟨p, fv, pv, h.below hB, rfl⟩
        obtain ⟨c, hc⟩ : ∃ c, c = d.burn.2 := ⟨_, rfl⟩
        rw [← hc] at hbu hne ⊢
        clear e hf h hd hFg hc hz
        go_enter Try.func27, Try.ntmps27
        go_wp2_with (first
          | (go_at_call 49; refine hfi.mono ?_; rintro e w1 ⟨rfl, rfl⟩; clear hfi)
          | (go_at_call 50; refine hla.mono ?_; rintro e w1 ⟨rfl, hB⟩; clear hla)
          | (go_at_call 58; refine (hbu _ hB).mono ?_; clear hbu; rintro e w2 ⟨rfl, hT⟩))
        go_ret
        exact ⟨rfl, To.from_below hB hT⟩

end Go.Proofs.Ytgbbbjddooiaeaa
