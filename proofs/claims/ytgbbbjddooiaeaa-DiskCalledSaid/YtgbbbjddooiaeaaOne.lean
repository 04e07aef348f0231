/-
  A disk of the call's own, and no more; a row of zero bytes that make has laid.
-/
import Derived.Test.YtgbbbjddooiaeaaWakes
namespace Go.Proofs.Ytgbbbjddooiaeaa
open Go.RowKit

structure One (w0 w : World) (D : Nat) (l : List Nat) (d : PD) : Prop where
  one : Disk w D l d
  new : ∀ x ∈ l, w0.heap.size ≤ x
  below : Below w0.heap.size w0 w

theorem One.quiet {w0 w w' : World} {D : Nat} {l : List Nat} {d : PD} (h : One w0 w D l d) (hB : Below w.heap.size w w') : One w0 w' D l d :=
  ⟨h.one.below hB, h.new, h.below.trans (hB.mono h.below.size)⟩
theorem One.to {w0 w w' : World} {D : Nat} {l : List Nat} {d d' : PD} (h : One w0 w D l d) (hT : To D l w d' w') : ∃ l', One w0 w' D l' d' := by
  obtain ⟨l', h1, h2, h3⟩ := hT
  refine ⟨l', h1, fun x hx => ?_, h.below.trans (h2.below h.below.size h.new)⟩
  rcases h3 x hx with e | e
  · exact h.new x e
  · have := h.below.size; omega
theorem One.make {w : World} : Calls Try.prog 11 #[] w fun r w' => r = .returned (.pointer (some ⟨w.heap.size, 0, none⟩)) ∧ One w w' w.heap.size [w.heap.size] PD.new :=
  (new_any w).mono fun _ _ ⟨h1, h2, h3⟩ => ⟨h1, h2, fun x hx => by simp at hx; omega, h3⟩

section
variable {w0 w : World} {D : Nat} {l : List Nat} {d d' : PD} {c : Int}
theorem make_O (T : One w0 w D l d) (s : ByteArray) (hs : s.size ≤ maxLen) (hm : d.make s = (d', c)) :
    Calls Try.prog 23 #[.pointer (some ⟨D, 0, none⟩), .string s] w fun r w' => r = .returned (.int .i64 c) ∧ ∃ l', One w0 w' D l' d' := by
  have h := make_any T.one s hs
  rw [hm] at h
  exact h.mono fun _ _ ⟨h1, h2⟩ => ⟨h1, T.to h2⟩
theorem sync_O (T : One w0 w D l d) (s : ByteArray) (hm : d.sync s = (d', c)) :
    Calls Try.prog 27 #[.pointer (some ⟨D, 0, none⟩), .string s] w fun r w' => r = .returned (.int .i64 c) ∧ ∃ l', One w0 w' D l' d' := by
  have h := sync_any T.one s
  rw [hm] at h
  exact h.mono fun _ _ ⟨h1, h2⟩ => ⟨h1, T.to h2⟩
theorem rename_O (T : One w0 w D l d) (a b : ByteArray) (hb : b.size ≤ maxLen) (hm : d.rename a b = (d', c)) :
    Calls Try.prog 28 #[.pointer (some ⟨D, 0, none⟩), .string a, .string b] w fun r w' => r = .returned (.int .i64 c) ∧ ∃ l', One w0 w' D l' d' := by
  have h := rename_any T.one a b hb
  rw [hm] at h
  exact h.mono fun _ _ ⟨h1, h2⟩ => ⟨h1, T.to h2⟩
/-- Append of bytes that lie outside the disk. -/
theorem append_O (T : One w0 w D l d) (s : ByteArray) (bb bo cap n : Nat) (ao : Option Addr) (bs : List UInt8) (hn : n = bs.length) (hcap : bs.length ≤ cap) (hlen : bs.length ≤ 140737488355328)
    (ha : 0 < bs.length → ao = some ⟨bb, bo, none⟩ ∧ bb < w.heap.size ∧ bb ∉ l)
    (hsrc : ∀ j, j < bs.length → w.cell? ⟨bb, bo + j, none⟩ = some (.int .u8 ((bs.getD j 0).toNat : Nat))) (hm : d.append s bs = (d', c)) :
    Calls Try.prog 26 #[.pointer (some ⟨D, 0, none⟩), .string s, .slice ao n cap] w fun r w' => r = .returned (.int .i64 c) ∧ ∃ l', One w0 w' D l' d' := by
  have h := append_any T.one s bb bo cap ao bs hcap hlen ha hsrc
  rw [hm] at h
  subst hn
  exact h.mono fun _ _ ⟨h1, h2⟩ => ⟨h1, T.to h2⟩
end

theorem infoZ : (Try.prog.info? 5).map (fun i => (i.zero, i.size, i.bytes)) = some (some (.int .u8 0), 1, 1) := by kernel_rfl

def zeros (n : Nat) : List UInt8 := List.replicate n 0
theorem zeros_len (n : Nat) : (zeros n).length = n := by simp [zeros]

theorem le_max {n : Nat} (h : n ≤ 140737488355328) : n ≤ maxLen := Nat.le_trans h (by decide +kernel)

/-- n zero bytes, new. -/
theorem make_zeros (w : World) (n : Nat) (hn : n ≤ 2000000) : ∃ w', (Instr.makeSlice 35 (.int .i64 (n : Int)) (.int .i64 (n : Int))).run Try.prog w = .ok (.slice (some ⟨w.heap.size, 0, none⟩) n n) w' ∧
    Below w.heap.size w w' ∧ w.heap.size < w'.heap.size ∧ ∀ j, j < (zeros n).length → w'.cell? ⟨w.heap.size, 0 + j, none⟩ = some (.int .u8 (((zeros n).getD j 0).toNat : Nat)) := by
  obtain ⟨i, hi, hz, hs, hb⟩ := info_parts infoZ
  obtain ⟨w', h1, h2, h3⟩ := run_make_full (P := Try.prog) w w.heap.size 35 5 i _ 1 Try.underlying35 hi hz hs .i64 .i64 n (by rw [hb]; omega) (le_max (by omega)) (Nat.le_refl _)
  obtain ⟨hl, hc⟩ := h2
  refine ⟨w', h1, ((Fr.refl [] w).grown h3 (fun k hk => nomatch hk)).below0, ?_, fun j hj => ?_⟩
  · rcases hc with ⟨h, _⟩ | ⟨g, cap, cur, h, hg, hblk, _⟩
    · simp at h
    · simp at h
      obtain ⟨rfl, rfl⟩ := h
      exact lt_of_block hblk
  · rw [zeros_len] at hj
    rcases hc with ⟨h, _⟩ | ⟨g, cap, cur, h, hg, hblk, h4, h5, h6, h7⟩
    · simp at h
    · simp at h
      obtain ⟨rfl, rfl⟩ := h
      rw [Nat.zero_add, cell_at hblk, ← Array.getElem?_toList]
      have : (cur.toList.take (n * 1))[j]? = (madeCells (Value.int .u8 0).cells (n * 1)).toList[j]? := by rw [h7]
      rw [List.getElem?_take, if_pos (by omega)] at this
      rw [this]
      simp [zeros, madeCells, Value.cells, hj, Nat.mod_one]

end Go.Proofs.Ytgbbbjddooiaeaa
