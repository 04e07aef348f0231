/-
  Append and Sync of package disk, by their contracts.
-/
import Derived.Test.YtgbbbjddooiaeaaAppend
namespace Go.Proofs.Ytgbbbjddooiaeaa
open Go.RowKit

def PF.none : PF := ⟨ByteArray.empty, [], 0⟩
/-- One file turned. -/
def PD.upd (d : PD) (k : Nat) (g : PF → PF) : PD := { d with files := d.files.set k (g (d.files.getD k PF.none)) }

def PD.append (d : PD) (s : ByteArray) (b : List UInt8) : PD × Int :=
  match d.find s with
  | .none => (d, fst0 [d.word, 4])
  | .some k => if d.down then (d, 5) else if 1048576 < (d.files.getD k PF.none).text.length + b.length then (d, 3) else (d.upd k fun f => { f with text := f.text ++ b }).burn

def PD.sync (d : PD) (s : ByteArray) : PD × Int :=
  match d.find s with
  | .none => (d, fst0 [d.word, 4])
  | .some k => if d.down then (d, 5) else if d.burn.2 = 0 then (d.burn.1.upd k fun f => { f with sure := f.text.length }, 0) else d.burn

theorem fst0_word (d : PD) (x : Int) : fst0 [d.word, 4, x] = fst0 [d.word, 4] := by
  unfold PD.word
  cases d.down <;> simp [fst0]
theorem fst0_two (a b : Int) : fst0 [a, b] = if a = 0 then (if b = 0 then 0 else b) else a := by simp [fst0]
theorem fst0_nest (d : PD) (x : Int) : fst0 [fst0 [d.word, 4], x] = fst0 [d.word, 4] := by
  unfold PD.word
  cases d.down <;> simp [fst0]
theorem miss_ne (d : PD) : (fst0 [d.word, 4] != 0) = true := by
  unfold PD.word
  cases d.down <;> simp [fst0]

theorem getD_at {l : List PF} {k : Nat} (h : k < l.length) : l.getD k PF.none = l[k] := by simp [List.getD, List.getElem?_eq_getElem h]

theorem put_nil (F : Nat) (a : Option Addr) (cap : Nat) (w : World) :
    Calls Try.prog 57 #[.pointer (some ⟨F, 0, none⟩), .slice a 0 cap] w fun r w' => r = .returned (.tuple #[]) ∧ w = w' := by
  go_enter Try.func57, Try.ntmps57
  go_wp2_with fail
  refine wp_loop_rounds 1 ?_
  rw [rounds_succ]
  go_wp2
  go_end0
  exact ⟨rfl, rfl⟩

set_option maxHeartbeats 2000000 in
theorem append_any {w : World} {D : Nat} {l : List Nat} {d : PD} (h : Disk w D l d) (s : ByteArray) (bb bo cap : Nat) (ao : Option Addr) (bs : List UInt8) (hcap : bs.length ≤ cap) (hlen : bs.length ≤ 140737488355328)
    (ha : 0 < bs.length → ao = some ⟨bb, bo, none⟩ ∧ bb < w.heap.size ∧ bb ∉ l)
    (hsrc : ∀ j, j < bs.length → w.cell? ⟨bb, bo + j, none⟩ = some (.int .u8 ((bs.getD j 0).toNat : Nat))) :
    Calls Try.prog 26 #[.pointer (some ⟨D, 0, none⟩), .string s, .slice ao bs.length cap] w fun r w' => r = .returned (.int .i64 (d.append s bs).2) ∧ To D l w (d.append s bs).1 w' := by
  obtain ⟨p, fv, pv, h, rfl⟩ := h
  have HD := Lib.hid h
  obtain ⟨n, hN⟩ : ∃ n, n = bs.length := ⟨_, rfl⟩
  have hn48 : n ≤ 140737488355328 := by omega
  cases hf : d.find s with
  | none =>
    have e : d.append s bs = (d, fst0 [d.word, 4]) := by simp [PD.append, hf]
    rw [e, ← hN]
    have hfi := find_miss h s hf
    have hla := lacks_miss h
    have hne := miss_ne d
    have HNE := Lib.hid (fst0_nest d (whenE (decide ((1048576 : Int) < (n : Int))) 3))
    obtain ⟨c, hc⟩ : ∃ c, c = fst0 [d.word, 4] := ⟨_, rfl⟩
    rw [← hc] at hla hne HNE ⊢
    clear e hN ha hsrc hf h hc
    go_enter Try.func26, Try.ntmps26
    go_wp2_with (first
      | (go_at_call 49; refine hfi.mono ?_; rintro e w1 ⟨rfl, rfl⟩; clear hfi)
      | (go_at_call 50; refine hla.mono ?_; rintro e w1 ⟨rfl, hB⟩; clear hla)
      | (go_at_call 56; refine (size_nil _).mono ?_; rintro e w1 ⟨rfl, rfl⟩)
      | (go_at_call 53; refine (when_any _ _ _).mono ?_; rintro e w1 ⟨rfl, rfl⟩)
      | (go_at_call 47; (with_reducible refine (first_two _ _ c _ HNE.out).mono ?_); rintro e w' ⟨rfl, rfl⟩))
    go_ret
    exact ⟨rfl, To.same ⟨p, fv, pv, HD.out, rfl⟩ (hB.alloc hB.size _)⟩
  | some k =>
    obtain ⟨hk, hfi⟩ := find_hit h s k hf
    have hkd : k < d.files.length := by have := h.files.length; omega
    obtain ⟨f, hff⟩ : ∃ f, f = d.files[k] := ⟨_, rfl⟩
    have hgd : d.files.getD k PF.none = f := by rw [getD_at hkd, hff]
    have hF := h.files.get k hk hkd
    rw [← hff] at hF
    obtain ⟨F, g, hFg⟩ : ∃ F g, p.files[k] = (F, g) := ⟨_, _, rfl⟩
    rw [hFg] at hfi hF
    have hla := lacks_hit h F
    obtain ⟨L, hL⟩ : ∃ L, L = f.text.length := ⟨_, rfl⟩
    have hok : f.ok := by obtain ⟨v, n, xs, _, _, _, hok⟩ := hF; exact hok
    have hL20 : L ≤ 1048576 := by have := hok.2.2; omega
    have hsz : ∀ w1, Below w.heap.size w w1 → Calls Try.prog 56 #[.pointer (some ⟨F, 0, none⟩)] w1 fun r w' => r = .returned (.int .i64 (L : Nat)) ∧ w1 = w' := fun w1 hB => by
      rw [hL]; exact size_some (p := (F, g)) (hF.congr fun k hk => hB.block k (hF.lt k hk))
    by_cases hbad : d.down = true ∨ 1048576 < L + n
    · obtain ⟨c, hc⟩ : ∃ c, c = (if d.down = true then (5 : Int) else 3) := ⟨_, rfl⟩
      have e : d.append s bs = (d, c) := by
        unfold PD.append
        rw [hf]
        simp only [hgd, ← hL, ← hN]
        rcases hbad with hb | hb
        · simp [hb, hc]
        · cases hd : d.down <;> simp [hb, hc, hd]
      rw [e, ← hN]
      have hne : (c != 0) = true := by rw [hc]; split <;> rfl
      have HNE : Hid (fst0 [d.word, whenE (decide ((1048576 : Int) < (L : Int) + (n : Int))) 3] = c) := by
        show _ = _
        rw [hc]
        cases hd : d.down with
        | true => simp [word_down hd, fst0]
        | false =>
          rcases hbad with hb | hb
          · rw [hd] at hb; cases hb
          · have : decide ((1048576 : Int) < (L : Int) + (n : Int)) = true := by simp; omega
            simp [word_up hd, fst0, whenE, this]
      obtain ⟨x, hx⟩ : ∃ x, x = d.word := ⟨_, rfl⟩
      rw [← hx] at hla HNE
      clear e hN ha hsrc hf hc hx hbad hok hgd hff hL hF hFg
      go_enter Try.func26, Try.ntmps26
      go_wp2_with (first
        | (go_at_call 49; refine hfi.mono ?_; rintro e w1 ⟨rfl, rfl⟩; clear hfi)
        | (go_at_call 50; refine hla.mono ?_; rintro e w1 ⟨rfl, hB⟩; clear hla; have hs1 := hsz w1 hB; clear hsz)
        | (go_at_call 56; refine hs1.mono ?_; rintro e w1 ⟨rfl, rfl⟩; clear hs1)
        | (go_at_call 53; refine (when_any _ _ _).mono ?_; rintro e w1 ⟨rfl, rfl⟩)
        | (go_at_call 47; (with_reducible refine (first_two _ _ c _ HNE.out).mono ?_); rintro e w' ⟨rfl, rfl⟩))
      go_ret
      exact ⟨rfl, To.same ⟨p, fv, pv, HD.out, rfl⟩ (hB.alloc hB.size _)⟩
    · have hup : d.down = false := by cases hd : d.down <;> simp_all
      have hfit : ¬ 1048576 < L + n := fun hh => hbad (.inr hh)
      have e : d.append s bs = (d.upd k fun f => { f with text := f.text ++ bs }).burn := by
        unfold PD.append
        rw [hf]
        simp only [hgd, ← hL, ← hN]
        simp [hup, hfit]
      rw [e, ← hN]
      rw [word_up hup] at hla
      have HNE : Hid (fst0 [0, whenE (decide ((1048576 : Int) < (L : Int) + (n : Int))) 3] = 0) := by
        show _ = _
        have : decide ((1048576 : Int) < (L : Int) + (n : Int)) = false := by simp; omega
        simp [fst0, whenE, this]
      have hput : ∀ w1, Below w.heap.size w w1 → Calls Try.prog 57 #[.pointer (some ⟨F, 0, none⟩), .slice ao n cap] w1 fun r w' => r = .returned (.tuple #[]) ∧ To D (p.foot D) w1 (d.upd k fun f => { f with text := f.text ++ bs }) w' := fun w1 hB => by
        have h1 := h.below hB
        have hF1 : FRep w1 (F, g) f := hF.congr fun k hk => hB.block k (hF.lt k hk)
        have hsubF : ∀ x ∈ foot1 (F, g), x ∈ p.foot D := fun x hx => by
          simp only [Place.foot, List.mem_cons, List.mem_append]
          exact .inr (.inr (.inl (List.mem_flatMap.2 ⟨_, List.getElem_mem hk, by rw [hFg]; exact hx⟩)))
        have hgF : g ≠ some F := by have := foot1_ne h.flat_nodup k hk; rw [hFg] at this; exact this
        have hP : Calls Try.prog 57 #[.pointer (some ⟨F, 0, none⟩), .slice ao n cap] w1 fun r w' => r = .returned (.tuple #[]) ∧ ∃ g', FRep w' (F, g') { f with text := f.text ++ bs } ∧ Fr (foot1 (F, g)) w1 w' ∧ (∀ x, g' = some x → g = some x ∨ w1.heap.size ≤ x) := by
          by_cases h0 : 0 < n
          · obtain ⟨ha1, ha2, ha3⟩ := ha (by omega)
            exact put_any hF1 bb bo n cap ao bs hN.symm (by omega) (fun _ => ha1) (fun j hj => by rw [hB.cell (p := ⟨bb, bo + j, none⟩) ha2]; exact hsrc j (by omega)) (by have := hB.size; omega) (fun e => ha3 (hsubF _ (by simp [foot1, e]))) (fun e => ha3 (hsubF _ (by simp [foot1, e]))) hgF (by omega)
          · have hn0 : n = 0 := by omega
            subst hn0
            have hb0 : bs = [] := List.eq_nil_of_length_eq_zero hN.symm
            subst hb0
            exact (put_nil F ao cap w1).mono fun r w2 ⟨h1, h2⟩ => ⟨h1, g, by subst h2; simpa using hF1, by subst h2; exact Fr.refl _ _, fun x hx => .inl hx⟩
        refine hP.mono ?_
        rintro r w2 ⟨rfl, g', h2, h3, h4⟩
        refine ⟨rfl, ?_⟩
        have hS := h1.setFile (w2 := w2) k hk hkd g' { f with text := f.text ++ bs } (by rw [hFg]; exact h2) (by rw [hFg]; exact h3) (by rw [hFg]; exact h4) (.inl (by rw [hff]))
        have eu : (d.upd k fun f => { f with text := f.text ++ bs }) = { d with files := d.files.set k { f with text := f.text ++ bs } } := by simp only [PD.upd, hgd]
        rw [eu]
        exact ⟨_, ⟨_, fv, pv, hS.1, rfl⟩, hS.2.1, hS.2.2⟩
      clear e hN ha hsrc hf hbad hok hgd hff hL hF hFg hup hfit
      go_enter Try.func26, Try.ntmps26
      go_wp2_with (first
        | (go_at_call 49; refine hfi.mono ?_; rintro e w1 ⟨rfl, rfl⟩; clear hfi)
        | (go_at_call 50; refine hla.mono ?_; rintro e w1 ⟨rfl, hB⟩; clear hla; have hs1 := hsz w1 hB; clear hsz)
        | (go_at_call 56; refine hs1.mono ?_; rintro e w1 ⟨rfl, rfl⟩; clear hs1)
        | (go_at_call 53; refine (when_any _ _ _).mono ?_; rintro e w1 ⟨rfl, rfl⟩)
        | (go_at_call 47; (with_reducible refine (first_two _ _ 0 _ HNE.out).mono ?_); rintro e w' ⟨rfl, rfl⟩)
        | (go_at_call 57; refine Calls.mono (hput _ (hB.alloc hB.size _)) ?_; clear hput; rintro e w2 ⟨rfl, l2, hD2, hFr2, hl2⟩; have hb2 := burn_any hD2)
        | (go_at_call 58; refine hb2.mono ?_; rintro e w3 ⟨rfl, hT3⟩; clear hb2))
      go_ret
      exact ⟨rfl, To.from_below (hB.alloc hB.size _) (To.trans hFr2 hl2 hT3)⟩

end Go.Proofs.Ytgbbbjddooiaeaa
