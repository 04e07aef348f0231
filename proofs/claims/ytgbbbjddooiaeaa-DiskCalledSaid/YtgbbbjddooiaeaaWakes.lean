/-
  wakes: what the document says of two disks, by the contracts of their methods.
-/
import Derived.Test.YtgbbbjddooiaeaaTwo
namespace Go.Proofs.Ytgbbbjddooiaeaa
open Go.RowKit

def sA : ByteArray := ⟨#[97]⟩
def sB : ByteArray := ⟨#[98]⟩

/-- The disks of wakes, deed by deed. -/
def dk1 : PD := ⟨[⟨sA, [], 0⟩], false, false, 0, []⟩
def dk2 : PD := ⟨[⟨sA, [1, 2, 3], 0⟩], false, false, 0, []⟩
def dk3 : PD := ⟨[⟨sA, [1, 2, 3], 3⟩], false, false, 0, []⟩
def dk4 : PD := ⟨[⟨sA, [1, 2, 3, 4, 5], 3⟩], false, false, 0, []⟩
def dk5 : PD := ⟨[⟨sA, [1, 2, 3, 4], 4⟩], true, false, 0, []⟩
def dk6 : PD := ⟨[⟨sA, [1, 2, 3, 4], 4⟩], false, false, 0, []⟩
def ck2 : PD := ⟨[⟨sA, [7], 0⟩], false, false, 0, []⟩
def ck3 : PD := ⟨[⟨sA, [7], 0⟩, ⟨sB, [], 0⟩], false, false, 0, []⟩
def ck4 : PD := ⟨[⟨sA, [], 0⟩], false, false, 0, []⟩

theorem e1 : PD.new.make sA = (dk1, 0) := by kernel_rfl
theorem e2 : dk1.append sA [1, 2, 3] = (dk2, 0) := by kernel_rfl
theorem e3 : dk2.sync sA = (dk3, 0) := by kernel_rfl
theorem e4 : dk3.append sA [4, 5] = (dk4, 0) := by kernel_rfl
theorem e5 : dk4.crash [(sA, 1)] = (dk5, 0) := by kernel_rfl
theorem e6 : dk5.open = (dk6, 0) := by kernel_rfl
theorem e7 : dk1.append sA [7] = (ck2, 0) := by kernel_rfl
theorem e8 : ck2.make sB = (ck3, 0) := by kernel_rfl
theorem e9 : ck3.rename sB sA = (ck4, 0) := by kernel_rfl
theorem e10 : dk6.read sA = ([1, 2, 3, 4], 0) := by kernel_rfl
theorem e11 : ck4.read sA = ([], 0) := by kernel_rfl

section
variable {w0 w : World} {D1 D2 : Nat} {l1 l2 : List Nat} {d1 d2 d' : PD} {c : Int}

theorem make_L (T : Two w0 w D1 l1 d1 D2 l2 d2) (s : ByteArray) (hs : s.size ≤ maxLen) (hm : d1.make s = (d', c)) :
    Calls Try.prog 23 #[.pointer (some ⟨D1, 0, none⟩), .string s] w fun r w' => r = .returned (.int .i64 c) ∧ ∃ l', Two w0 w' D1 l' d' D2 l2 d2 := by
  have h := make_any T.one s hs
  rw [hm] at h
  exact h.mono fun _ _ ⟨h1, h2⟩ => ⟨h1, T.left h2⟩
theorem sync_L (T : Two w0 w D1 l1 d1 D2 l2 d2) (s : ByteArray) (hm : d1.sync s = (d', c)) :
    Calls Try.prog 27 #[.pointer (some ⟨D1, 0, none⟩), .string s] w fun r w' => r = .returned (.int .i64 c) ∧ ∃ l', Two w0 w' D1 l' d' D2 l2 d2 := by
  have h := sync_any T.one s
  rw [hm] at h
  exact h.mono fun _ _ ⟨h1, h2⟩ => ⟨h1, T.left h2⟩
theorem open_L (T : Two w0 w D1 l1 d1 D2 l2 d2) (hm : d1.open = (d', c)) :
    Calls Try.prog 17 #[.pointer (some ⟨D1, 0, none⟩)] w fun r w' => r = .returned (.int .i64 c) ∧ ∃ l', Two w0 w' D1 l' d' D2 l2 d2 := by
  have h := open_any T.one
  rw [hm] at h
  exact h.mono fun _ _ ⟨h1, h2⟩ => ⟨h1, T.left h2⟩
theorem rename_L (T : Two w0 w D1 l1 d1 D2 l2 d2) (a b : ByteArray) (hb : b.size ≤ maxLen) (hm : d1.rename a b = (d', c)) :
    Calls Try.prog 28 #[.pointer (some ⟨D1, 0, none⟩), .string a, .string b] w fun r w' => r = .returned (.int .i64 c) ∧ ∃ l', Two w0 w' D1 l' d' D2 l2 d2 := by
  have h := rename_any T.one a b hb
  rw [hm] at h
  exact h.mono fun _ _ ⟨h1, h2⟩ => ⟨h1, T.left h2⟩

/-- Append of bytes that a literal has just made. -/
theorem append_L (T : Two w0 w D1 l1 d1 D2 l2 d2) (s : ByteArray) (bs : List UInt8) (n : Nat) (hn : n = bs.length) (h48 : n ≤ 1000) (cs : Array Value) (hcs : cs = (bytesV bs).toArray) (hm : d1.append s bs = (d', c)) :
    Calls Try.prog 26 #[.pointer (some ⟨D1, 0, none⟩), .string s, .slice (some ⟨w.heap.size, 0, none⟩) n n] (w.alloc (.cells cs 5)) fun r w' => r = .returned (.int .i64 c) ∧ ∃ l', Two w0 w' D1 l' d' D2 l2 d2 := by
  have T1 := T.quiet ((Below.refl w.heap.size w).alloc (Nat.le_refl _) (.cells cs 5))
  have h := append_any T1.one s w.heap.size 0 n (some ⟨w.heap.size, 0, none⟩) bs (by omega) (by omega) (fun _ => ⟨rfl, by simp, fun hm => by have := T.one.lt _ hm; omega⟩) (fun j hj => by
    rw [Nat.zero_add, World.cell?_alloc_at _ _ _ _ rfl, hcs, List.getElem?_toArray]; exact bytesV_at bs j hj)
  rw [hm, ← hn] at h
  exact h.mono fun _ _ ⟨h1, h2⟩ => ⟨h1, T1.left h2⟩

/-- Crash by one piece that a literal has just made. -/
theorem crash_L (T : Two w0 w D1 l1 d1 D2 l2 d2) (s : ByteArray) (k : Int) (hk : (Lit.int .i64 k).wf = true) (hm : d1.crash [(s, k)] = (d', c)) :
    Calls Try.prog 22 #[.pointer (some ⟨D1, 0, none⟩), .slice (some ⟨w.heap.size, 0, none⟩) 1 1] (w.alloc (.cells #[.string s, .int .i64 k] 62)) fun r w' => r = .returned (.int .i64 c) ∧ ∃ l', Two w0 w' D1 l' d' D2 l2 d2 := by
  have T1 := T.quiet ((Below.refl w.heap.size w).alloc (Nat.le_refl _) (.cells #[.string s, .int .i64 k] 62))
  have h := crash_any T1.one (some ⟨w.heap.size, 0, none⟩) w.heap.size 0 1 [(s, k)] (by simp) (fun _ => ⟨rfl, by simp, fun hm => by have := T.one.lt _ hm; omega⟩) (fun j hj => by
    match j, hj with
    | 0, _ => exact ⟨by rw [World.cell?_alloc_at _ _ _ _ rfl]; rfl, by rw [World.cell?_alloc_at _ _ _ _ rfl]; rfl⟩) (fun x hx => by simp at hx; subst hx; exact hk)
  rw [hm] at h
  exact h.mono fun _ _ ⟨h1, h2⟩ => ⟨h1, T1.left h2⟩
end

/-- A slice of bytes as a string. -/
theorem bytes_string {W w : World} {v : Value} {l : List UInt8} (h : BytesNew W w v l) : (convert 35 9 v).run Try.prog w = .ok (.string ⟨l.toArray⟩) w := by
  obtain ⟨h1, ⟨rfl, h2⟩ | ⟨g, cap, cur, rfl, _, h3, h4, h5, h6, h7⟩⟩ := h
  · have : l = [] := List.eq_nil_of_length_eq_zero h2
    subst this
    rw [run_convert_bytes_string w 35 9 5 none 0 0 Try.underlying35 Try.underlying5 Try.underlying9]
    rfl
  · refine run_convert_bytes_back (P := Try.prog) w 35 9 5 ⟨g, 0, none⟩ cap l Try.underlying35 Try.underlying5 Try.underlying9 fun j hj => ?_
    rw [addr_plain, Nat.zero_add, cell_at h3, ← Array.getElem?_toList]
    have : (cur.toList.take (l.length * 1))[j]? = (bytesV l)[j]? := by rw [h7]
    rw [List.getElem?_take, if_pos (by omega), bytesV_at l j hj] at this
    rw [this]
    simp [List.getD, List.getElem?_eq_getElem hj]

theorem BytesNew.below {W w w' : World} {v : Value} {l : List UInt8} (h : BytesNew W w v l) (hB : Below w.heap.size w w') : BytesNew W w' v l :=
  World.ownsRow.kept (row := none) h ⟨hB.os, hB.tape, hB.output, hB.size, fun k hk _ => hB.block k hk⟩ (by cases v.ownBlock <;> simp)
theorem BytesNew.shape {W w : World} {v : Value} {l : List UInt8} (h : BytesNew W w v l) : ∃ a cap, v = .slice a l.length cap := by
  obtain ⟨_, ⟨rfl, h2⟩ | ⟨g, cap, cur, rfl, _⟩⟩ := h
  · exact ⟨none, 0, by rw [h2]⟩
  · exact ⟨_, _, rfl⟩

set_option maxHeartbeats 4000000 in
set_option maxRecDepth 100000 in
theorem wakes_any (w : World) : Calls Try.prog 10 #[] w fun e w' => e = .returned (.bool true) ∧ Below w.heap.size w w' := by
  go_enter Try.func10, Try.ntmps10
  go_wp2_with fail
  refine (new_any w).mono ?_
  rintro e w1 ⟨rfl, hD1, hB1⟩
  go_wp2_with fail
  refine (new_any w1).mono ?_
  rintro e w2 ⟨rfl, hD2, hB2⟩
  have T : Two w w2 w.heap.size [w.heap.size] PD.new w1.heap.size [w1.heap.size] PD.new :=
    ⟨hD1.below hB2, hD2, fun x h1 h2 => by simp at h1 h2; have := hD1.lt x (by simp [h1]); omega, fun x hx => by simp at hx; omega, fun x hx => by simp at hx; have := hB1.size; omega, hB1.trans (hB2.mono hB1.size)⟩
  obtain ⟨D1, hD1e⟩ : ∃ D, D = w.heap.size := ⟨_, rfl⟩
  obtain ⟨D2, hD2e⟩ : ∃ D, D = w1.heap.size := ⟨_, rfl⟩
  rw [← hD2e, ← hD1e] at T
  rw [← hD2e, ← hD1e]
  have HD1e := Lib.hid hD1e
  clear hD1 hD2 hB1 hB2 hD1e hD2e
  go_wp2_with fail
  refine Calls.mono (make_L T sA (by decide) e1) ?_
  clear T
  rintro e w3 ⟨rfl, l3, T⟩
  go_wp2_with fail
  refine Calls.mono (append_L T sA [1, 2, 3] 3 rfl (by decide) _ rfl e2) ?_
  clear T
  rintro e w4 ⟨rfl, l4, T⟩
  go_wp2_with fail
  refine Calls.mono (sync_L T sA e3) ?_
  clear T
  rintro e w5 ⟨rfl, l5, T⟩
  go_wp2_with fail
  refine Calls.mono (append_L T sA [4, 5] 2 rfl (by decide) _ rfl e4) ?_
  clear T
  rintro e w6 ⟨rfl, l6, T⟩
  go_wp2_with fail
  refine Calls.mono (crash_L T sA 1 (by decide) e5) ?_
  clear T
  rintro e w7 ⟨rfl, l7, T⟩
  go_wp2_with fail
  refine Calls.mono (open_L T e6) ?_
  clear T
  rintro e w8 ⟨rfl, l8, T⟩
  have T := T.swap
  go_wp2_with fail
  refine Calls.mono (make_L T sA (by decide) e1) ?_
  clear T
  rintro e w9 ⟨rfl, l9, T⟩
  go_wp2_with fail
  refine Calls.mono (append_L T sA [7] 1 rfl (by decide) _ rfl e7) ?_
  clear T
  rintro e w10 ⟨rfl, l10, T⟩
  go_wp2_with fail
  refine Calls.mono (make_L T sB (by decide) e8) ?_
  clear T
  rintro e w11 ⟨rfl, l11, T⟩
  go_wp2_with fail
  refine Calls.mono (rename_L T sB sA (by decide) e9) ?_
  clear T
  rintro e w12 ⟨rfl, l12, T⟩
  go_wp2_with fail
  have hr1 := readM_any T.two sA
  rw [e10] at hr1
  refine Calls.mono hr1 ?_
  clear hr1
  rintro e w13 ⟨v1, rfl, hv1, hB1⟩
  have T := T.quiet hB1
  go_wp2_with fail
  have hr2 := readM_any T.one sA
  rw [e11] at hr2
  refine Calls.mono hr2 ?_
  clear hr2
  rintro e w14 ⟨v2, rfl, hv2, hB2⟩
  have T := T.quiet hB2
  obtain ⟨a2, c2, rfl⟩ := hv2.shape
  have hcv := bytes_string (hv1.below hB2)
  have HT := Lib.hid T.below
  simp only [List.length_nil]
  clear T hv1 hv2 hB1 hB2
  go_wp2
  go_ret
  exact ⟨rfl, HT.out⟩

end Go.Proofs.Ytgbbbjddooiaeaa
