/-
  The disk of the law DiskFull, deed by deed.
-/
import Derived.Test.YtgbbbjddooiaeaaOne
import Derived.Test.YtgbbbjddooiaeaaNames
namespace Go.Proofs.Ytgbbbjddooiaeaa
open Go.RowKit

def nmF (k : Nat) : ByteArray := ⟨#[UInt8.ofNat (65 + k)]⟩
def fullD (k : Nat) : PD := ⟨(List.range k).map fun i => ⟨nmF i, [], 0⟩, false, false, 0, []⟩
def fullT (t : List UInt8) : PD := ⟨⟨nmF 0, t, 0⟩ :: ((List.range 63).map fun i => ⟨nmF (i + 1), [], 0⟩), false, false, 0, []⟩

theorem nmF_ne {i j : Nat} (h : i < j) (hj : j < 64) : nmF i ≠ nmF j := by
  intro e
  have e1 : (nmF i).data = (nmF j).data := by rw [e]
  simp only [nmF] at e1
  have e2 := congrArg (fun a : Array UInt8 => (a[0]?.map UInt8.toNat)) e1
  simp at e2
  omega

theorem full_make (k : Nat) (hk : k < 64) : (fullD k).make (nmF k) = (fullD (k + 1), 0) := by
  have hf : (fullD k).find (nmF k) = none := by
    rw [PD.find, List.findIdx?_eq_none_iff]
    intro f hf
    simp [fullD] at hf
    obtain ⟨i, hi, rfl⟩ := hf
    simpa using nmF_ne hi hk
  have hn : nameB (nmF k) = true := by simp [nameB, nmF, ByteArray.size]
  rw [PD.make, if_neg (by simp [fullD]), if_neg (by simp [hn]), hf, if_neg (by simp), if_neg (by simp [fullD]; omega)]
  simp [fullD, List.range_succ]

theorem full64 : fullD 64 = fullT [] := by
  simp [fullD, fullT, List.range_succ_eq_map (n := 63)]

def sLong : ByteArray := ⟨#[97, 32, 108, 111, 110, 103, 32, 110, 97, 109, 101]⟩
def sCapA : ByteArray := ⟨#[65]⟩
theorem full_long : (fullT []).make sLong = (fullT [], 100) := by kernel_rfl
theorem full_twice : (fullT []).make sCapA = (fullT [], 101) := by kernel_rfl
theorem nmF_A : (decide (nmF 0 = sCapA)) = true := by decide +kernel
theorem full_find (t : List UInt8) : (fullT t).find sCapA = some 0 := by
  rw [PD.find]
  simp only [fullT, List.findIdx?_cons]
  rw [if_pos nmF_A]
theorem full_app (t b : List UInt8) (h : t.length + b.length ≤ 1048576) : (fullT t).append sCapA b = (fullT (t ++ b), 0) := by
  rw [PD.append, full_find]
  show (if (fullT t).down = true then _ else _) = _
  rw [if_neg (by simp [fullT])]
  have : ((fullT t).files.getD 0 PF.none).text = t := by simp [fullT, List.getD]
  rw [this, if_neg (by omega)]
  simp [PD.burn, PD.upd, fullT, List.getD]
theorem full_over (t b : List UInt8) (h : 1048576 < t.length + b.length) : (fullT t).append sCapA b = (fullT t, 3) := by
  rw [PD.append, full_find]
  show (if (fullT t).down = true then _ else _) = _
  rw [if_neg (by simp [fullT])]
  have : ((fullT t).files.getD 0 PF.none).text = t := by simp [fullT, List.getD]
  rw [this, if_pos (by omega)]
theorem full_read (t : List UInt8) : (fullT t).read sCapA = (t, 0) := by
  rw [PD.read, full_find]
  simp [fullT, List.getD]
theorem full_names (t : List UInt8) : (fullT t).names.length = 64 := by
  rw [PD.names, if_neg (by simp [fullT]), List.length_mergeSort]
  simp [fullT]

theorem names_shape {w w' : World} {v : Value} {n : Nat} {xs : List Value} (h : w'.ownsRow w.heap.size 9 1 v n xs) : ∃ a cap, v = .slice a n cap := by
  obtain ⟨_, ⟨rfl, h2⟩ | ⟨g, cap, cur, rfl, _⟩⟩ := h
  · exact ⟨none, 0, by rw [h2]⟩
  · exact ⟨_, _, rfl⟩

/-- The string of one byte. -/
theorem byte_string (w : World) (k : Nat) (hk : k < 64) : (convert 35 9 (.slice (some ⟨w.heap.size, 0, none⟩) 1 1)).run Try.prog (w.alloc (.cells #[.int .u8 (65 + (k : Int))] 5)) = .ok (.string (nmF k)) (w.alloc (.cells #[.int .u8 (65 + (k : Int))] 5)) := by
  refine run_convert_bytes_back (P := Try.prog) _ 35 9 5 ⟨w.heap.size, 0, none⟩ 1 [UInt8.ofNat (65 + k)] Try.underlying35 Try.underlying5 Try.underlying9 fun j hj => ?_
  obtain rfl : j = 0 := by simpa using hj
  rw [addr_plain, Nat.zero_add, World.cell?_alloc_at _ _ _ _ rfl]
  simp
  omega

end Go.Proofs.Ytgbbbjddooiaeaa
