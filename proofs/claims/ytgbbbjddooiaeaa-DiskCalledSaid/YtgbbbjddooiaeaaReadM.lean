/-
  Read and Sure of package disk, by their contracts.
-/
import Derived.Test.YtgbbbjddooiaeaaRead
namespace Go.Proofs.Ytgbbbjddooiaeaa
open Go.RowKit

def PD.read (d : PD) (s : ByteArray) : List UInt8 × Int :=
  match d.find s with
  | .none => ([], fst0 [d.word, 4])
  | .some k => if d.down then ([], 5) else ((d.files.getD k PF.none).text, 0)
def PD.sureOf (d : PD) (s : ByteArray) : Nat × Int :=
  match d.find s with
  | .none => (0, fst0 [d.word, 4])
  | .some k => if d.down then (0, 5) else ((d.files.getD k PF.none).sure, 0)

theorem own_mono {w : World} {base base' : Nat} {e : TypeId} {size : Nat} {v : Value} {n : Nat} {xs : List Value} (h : w.ownsRow base e size v n xs) (hb : base' ≤ base) : w.ownsRow base' e size v n xs := by
  obtain ⟨h1, h2 | ⟨g, cap, cur, h3, h4, h5⟩⟩ := h
  · exact ⟨h1, .inl h2⟩
  · exact ⟨h1, .inr ⟨g, cap, cur, h3, Nat.le_trans hb h4, h5⟩⟩

/-- A slice of bytes in new memory. -/
def BytesNew (W w' : World) (v : Value) (l : List UInt8) : Prop := w'.ownsRow W.heap.size 5 1 v l.length (bytesV l)

set_option maxHeartbeats 1000000 in
theorem readM_any {w : World} {D : Nat} {l : List Nat} {d : PD} (h : Disk w D l d) (s : ByteArray) :
    Calls Try.prog 19 #[.pointer (some ⟨D, 0, none⟩), .string s] w fun r w' => ∃ v, r = .returned (.tuple #[v, .int .i64 (d.read s).2]) ∧ BytesNew w w' v (d.read s).1 ∧ Below w.heap.size w w' := by
  obtain ⟨p, fv, pv, h, rfl⟩ := h
  cases hf : d.find s with
  | none =>
    have e : d.read s = ([], fst0 [d.word, 4]) := by simp [PD.read, hf]
    rw [e]
    have hfi := find_miss h s hf
    have hla := lacks_miss h
    have hne := miss_ne d
    obtain ⟨c, hc⟩ : ∃ c, c = fst0 [d.word, 4] := ⟨_, rfl⟩
    rw [← hc] at hla hne ⊢
    clear e hf h hc
    go_enter Try.func19, Try.ntmps19
    go_wp2_with (first
      | (go_at_call 49; refine hfi.mono ?_; rintro e w1 ⟨rfl, rfl⟩; clear hfi)
      | (go_at_call 50; refine hla.mono ?_; rintro e w1 ⟨rfl, hB⟩; clear hla))
    go_ret2
    exact ⟨_, rfl, World.ownsRow_nil _ _ _ _, hB⟩
  | some k =>
    obtain ⟨hk, hfi⟩ := find_hit h s k hf
    have hkd : k < d.files.length := by have := h.files.length; omega
    obtain ⟨F, g, hFg⟩ : ∃ F g, p.files[k] = (F, g) := ⟨_, _, rfl⟩
    rw [hFg] at hfi
    have hla := lacks_hit h F
    cases hd : d.down with
    | true =>
      have e : d.read s = ([], 5) := by simp [PD.read, hf, hd]
      rw [e]
      rw [word_down hd] at hla
      clear e hf h hd hFg
      go_enter Try.func19, Try.ntmps19
      go_wp2_with (first
        | (go_at_call 49; refine hfi.mono ?_; rintro e w1 ⟨rfl, rfl⟩; clear hfi)
        | (go_at_call 50; refine hla.mono ?_; rintro e w1 ⟨rfl, hB⟩; clear hla))
      go_ret2
      exact ⟨_, rfl, World.ownsRow_nil _ _ _ _, hB⟩
    | false =>
      rw [word_up hd] at hla
      have hF := h.files.get k hk hkd
      rw [hFg] at hF
      obtain ⟨f, hff⟩ : ∃ f, f = d.files[k] := ⟨_, rfl⟩
      rw [← hff] at hF
      have e : d.read s = (f.text, 0) := by simp only [PD.read, hf, hd, getD_at hkd, ← hff]; rfl
      rw [e]
      have hre : ∀ w1, Below w.heap.size w w1 → Calls Try.prog 51 #[.pointer (some ⟨F, 0, none⟩)] w1 fun e W' => ∃ v, e = .returned v ∧ W'.ownsRow w1.heap.size 5 1 v f.text.length (bytesV f.text) ∧ Below w1.heap.size w1 W' := fun w1 hB =>
        read_any (hF.congr fun k hk => hB.block k (hF.lt k hk))
      obtain ⟨t, ht⟩ : ∃ t, t = f.text := ⟨_, rfl⟩
      rw [← ht] at hre ⊢
      clear e hf h hd hFg hF hff ht
      go_enter Try.func19, Try.ntmps19
      go_wp2_with (first
        | (go_at_call 49; refine hfi.mono ?_; rintro e w1 ⟨rfl, rfl⟩; clear hfi)
        | (go_at_call 50; refine hla.mono ?_; rintro e w1 ⟨rfl, hB⟩; clear hla)
        | (go_at_call 51; refine Calls.mono (hre _ hB) ?_; clear hre; rintro e w2 ⟨v, rfl, hr, hB2⟩))
      go_ret2
      exact ⟨_, rfl, own_mono hr hB.size, hB.trans (hB2.mono hB.size)⟩

set_option maxHeartbeats 1000000 in
theorem sureM_any {w : World} {D : Nat} {l : List Nat} {d : PD} (h : Disk w D l d) (s : ByteArray) :
    Calls Try.prog 20 #[.pointer (some ⟨D, 0, none⟩), .string s] w fun r w' => r = .returned (.tuple #[.int .i64 ((d.sureOf s).1 : Nat), .int .i64 (d.sureOf s).2]) ∧ Below w.heap.size w w' := by
  obtain ⟨p, fv, pv, h, rfl⟩ := h
  cases hf : d.find s with
  | none =>
    have e : d.sureOf s = (0, fst0 [d.word, 4]) := by simp [PD.sureOf, hf]
    rw [e]
    have hfi := find_miss h s hf
    have hla := lacks_miss h
    have hne := miss_ne d
    obtain ⟨c, hc⟩ : ∃ c, c = fst0 [d.word, 4] := ⟨_, rfl⟩
    rw [← hc] at hla hne ⊢
    clear e hf h hc
    go_enter Try.func20, Try.ntmps20
    go_wp2_with (first
      | (go_at_call 49; refine hfi.mono ?_; rintro e w1 ⟨rfl, rfl⟩; clear hfi)
      | (go_at_call 50; refine hla.mono ?_; rintro e w1 ⟨rfl, hB⟩; clear hla))
    go_ret2
    exact ⟨rfl, hB⟩
  | some k =>
    obtain ⟨hk, hfi⟩ := find_hit h s k hf
    have hkd : k < d.files.length := by have := h.files.length; omega
    obtain ⟨F, g, hFg⟩ : ∃ F g, p.files[k] = (F, g) := ⟨_, _, rfl⟩
    rw [hFg] at hfi
    have hla := lacks_hit h F
    cases hd : d.down with
    | true =>
      have e : d.sureOf s = (0, 5) := by simp [PD.sureOf, hf, hd]
      rw [e]
      rw [word_down hd] at hla
      clear e hf h hd hFg
      go_enter Try.func20, Try.ntmps20
      go_wp2_with (first
        | (go_at_call 49; refine hfi.mono ?_; rintro e w1 ⟨rfl, rfl⟩; clear hfi)
        | (go_at_call 50; refine hla.mono ?_; rintro e w1 ⟨rfl, hB⟩; clear hla))
      go_ret2
      exact ⟨rfl, hB⟩
    | false =>
      rw [word_up hd] at hla
      have hF := h.files.get k hk hkd
      rw [hFg] at hF
      obtain ⟨f, hff⟩ : ∃ f, f = d.files[k] := ⟨_, rfl⟩
      rw [← hff] at hF
      have e : d.sureOf s = (f.sure, 0) := by simp only [PD.sureOf, hf, hd, getD_at hkd, ← hff]; rfl
      rw [e]
      have hc2 := hF.cell2
      have hFl := hF.lt F (by simp [foot1])
      clear e hf h hd hFg hF hff
      go_enter Try.func20, Try.ntmps20
      go_wp2_with (first
        | (go_at_call 49; refine hfi.mono ?_; rintro e w1 ⟨rfl, rfl⟩; clear hfi)
        | (go_at_call 50; refine hla.mono ?_; rintro e w1 ⟨rfl, hB⟩; clear hla; have hc3 := (hB.cell (p := ⟨F, 2, none⟩) hFl).trans hc2))
      go_ret2
      exact ⟨rfl, hB⟩

end Go.Proofs.Ytgbbbjddooiaeaa
