/-
  What a piece of bytes laid behind a text does to its blocks: lists alone.
-/
import Derived.Test.YtgbbbjddooiaeaaRep
import Derived.Laws.CopyOwn
namespace Go.Proofs.Ytgbbbjddooiaeaa
open Go.RowKit

/-- The cells of an empty block. -/
def zb : Array Value := #[.int .i64 0] ++ Array.replicate 512 (.int .u8 0)
theorem zb_size : zb.size = 513 := by simp [zb]
theorem zb_at0 : zb[0]? = some (.int .i64 0) := by
  unfold zb
  rw [Array.getElem?_append_left (by decide)]
  rfl
theorem zb_one : ∀ u ∈ zb.toList, u.oneCell' = true := by
  intro u hu
  simp only [zb, Array.toList_append, List.mem_append, Array.toList_replicate, List.mem_replicate] at hu
  rcases hu with hu | ⟨_, rfl⟩
  · simp at hu; subst hu; rfl
  · rfl

def bytesV (bs : List UInt8) : List Value := bs.map fun b => .int .u8 (b.toNat : Nat)
theorem bytesV_length (bs : List UInt8) : (bytesV bs).length = bs.length := by simp [bytesV]
theorem bytesV_one (bs : List UInt8) : ∀ u ∈ bytesV bs, u.oneCell' = true := by
  intro u hu
  obtain ⟨b, _, rfl⟩ := List.mem_map.1 hu
  rfl
theorem bytesV_at (bs : List UInt8) (j : Nat) (h : j < bs.length) : (bytesV bs)[j]? = some (.int .u8 ((bs.getD j 0).toNat : Nat)) := by
  simp [bytesV, List.getD, List.getElem?_eq_getElem h]

theorem splice_at {α : Type} (L : List α) (off : Nat) (cs : List α) (h : off + cs.length ≤ L.length) (j : Nat) :
    (splice L off cs)[j]? = if j < off then L[j]? else if j < off + cs.length then cs[j - off]? else L[j]? := by
  unfold splice
  by_cases h1 : j < off
  · rw [if_pos h1, List.getElem?_append_left (by simp; omega), List.getElem?_take, if_pos h1]
  · rw [if_neg h1, List.getElem?_append_right (by simp; omega)]
    have e : (List.take off L).length = off := by simp; omega
    rw [e]
    by_cases h2 : j < off + cs.length
    · rw [if_pos h2, List.getElem?_append_left (by omega)]
    · rw [if_neg h2, List.getElem?_append_right (by omega), List.getElem?_drop]
      congr 1; omega

/-- Blocks of which the last one has room. -/
structure Room (xs : List Value) (n u : Nat) (t : List UInt8) : Prop where
  pos : 1 ≤ n
  len : t.length = 512 * (n - 1) + u
  lt : u < 512
  size : xs.length = n * 513
  used : ∀ i, i < n → xs[513 * i]? = some (.int .i64 (min 512 (t.length - 512 * i) : Nat))
  byte : ∀ k, k < t.length → xs[513 * (k / 512) + 1 + k % 512]? = some (.int .u8 ((t.getD k 0).toNat : Nat))
  one : ∀ u ∈ xs, u.oneCell' = true

/-- All blocks are full: one more. -/
theorem Blocks.grow {xs : List Value} {n : Nat} {t : List UInt8} (h : Blocks xs n t) (hs : xs.length = n * 513) (hT : t.length = 512 * n) : Room (xs ++ zb.toList) (n + 1) 0 t := by
  refine ⟨by omega, by omega, by omega, by simp [zb_size, hs]; omega, fun i hi => ?_, fun k hk => ?_, fun u hu => ?_⟩
  · by_cases h1 : i < n
    · rw [List.getElem?_append_left (by omega)]; exact h.used i h1
    · obtain rfl : i = n := by omega
      rw [List.getElem?_append_right (by omega), show 513 * i - xs.length = 0 by omega, Array.getElem?_toList, zb_at0, show min 512 (t.length - 512 * i) = 0 by omega]
      rfl
  · rw [List.getElem?_append_left (by omega)]; exact h.byte k hk
  · rcases List.mem_append.1 hu with hu | hu
    · exact h.one u hu
    · exact zb_one u hu

/-- The last block has room. -/
theorem Blocks.room {xs : List Value} {n : Nat} {t : List UInt8} (h : Blocks xs n t) (hs : xs.length = n * 513) (hT : t.length ≠ 512 * n) : Room xs n (t.length - 512 * (n - 1)) t := by
  have := h.lo
  have := h.hi
  exact ⟨by omega, by omega, by omega, hs, h.used, h.byte, h.one⟩

/-- Bytes laid into the last block, and its count raised. -/
theorem Room.put {xs : List Value} {n u : Nat} {t : List UInt8} (h : Room xs n u t) (bs : List UInt8) (h1 : 1 ≤ bs.length) (h2 : u + bs.length ≤ 512) :
    Blocks ((splice xs ((n - 1) * 513 + 1 + u) (bytesV bs)).set ((n - 1) * 513) (.int .i64 (u + bs.length : Nat))) n (t ++ bs) := by
  have hp := h.pos
  have hl := h.len
  have hs := h.size
  have hfit : (n - 1) * 513 + 1 + u + (bytesV bs).length ≤ xs.length := by rw [bytesV_length]; omega
  have hsl := length_splice xs ((n - 1) * 513 + 1 + u) (bytesV bs) hfit
  refine ⟨by simp; omega, by simp; omega, fun i hi => ?_, fun k hk => ?_, fun v hv => ?_⟩
  · by_cases hin : i = n - 1
    · rw [show 513 * i = (n - 1) * 513 by omega, List.getElem?_set_self (by omega)]
      congr 3
      simp; omega
    · rw [List.getElem?_set_ne (by omega), splice_at _ _ _ hfit, if_pos (by omega), h.used i hi]
      congr 3
      simp; omega
  · rw [List.getElem?_set_ne (by omega), splice_at _ _ _ hfit]
    by_cases hkt : k < t.length
    · have e : 513 * (k / 512) + 1 + k % 512 < (n - 1) * 513 + 1 + u := by omega
      rw [if_pos e, h.byte k hkt]
      simp [List.getD, List.getElem?_append_left hkt]
    · have hk' : k < t.length + bs.length := by simpa using hk
      have e1 : k / 512 = n - 1 := by omega
      have e2 : k % 512 = u + (k - t.length) := by omega
      rw [e1, e2, if_neg (by omega), if_pos (by rw [bytesV_length]; omega), show 513 * (n - 1) + 1 + (u + (k - t.length)) - ((n - 1) * 513 + 1 + u) = k - t.length by omega, bytesV_at _ _ (by omega)]
      simp only [List.getD]
      rw [List.getElem?_append_right (by omega)]
  · rcases List.mem_or_eq_of_mem_set hv with hv | rfl
    · simp only [splice, List.mem_append] at hv
      rcases hv with hv | hv | hv
      · exact h.one v (List.mem_of_mem_take hv)
      · exact bytesV_one bs v hv
      · exact h.one v (List.mem_of_mem_drop hv)
    · rfl

theorem take_splice {α : Type} (L : List α) (off k : Nat) (cs : List α) (h : off + cs.length ≤ k) (hk : k ≤ L.length) : (splice L off cs).take k = splice (L.take k) off cs := by
  apply List.ext_getElem?
  intro j
  rw [List.getElem?_take, splice_at _ _ _ (by omega), splice_at _ _ _ (by simp; omega), List.getElem?_take]
  by_cases h1 : j < k
  · simp [h1]
  · simp [h1, show ¬ j < off by omega, show ¬ j < off + cs.length by omega]

end Go.Proofs.Ytgbbbjddooiaeaa
