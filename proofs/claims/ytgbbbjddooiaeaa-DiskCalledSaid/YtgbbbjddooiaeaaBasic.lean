/-
  The small functions of package disk: when, first, isName, called, where at a row of files, by their contracts.
-/
import Derived.Test.YtgbbbjddooiaeaaRows
import Derived.Test.YtgbbbjddooiaeaaLib
namespace Go.Proofs.Ytgbbbjddooiaeaa
open Go.RowKit

theorem ret_int {k : IntKind} {a b : Int} (h : a = b) : Ending.returned (.int k a) = .returned (.int k b) := by rw [h]
theorem ret_val {a b : Value} (h : a = b) : Ending.returned a = .returned b := by rw [h]

theorem when_t (e : Int) (w : World) :
    Calls Try.prog 53 #[.bool true, .int .i64 e] w fun r w' => r = .returned (.int .i64 e) ∧ w = w' := by
  go_enter Try.func53, Try.ntmps53
  go_wp2
  go_ret
  exact ⟨rfl, rfl⟩

theorem when_f (e : Int) (w : World) :
    Calls Try.prog 53 #[.bool false, .int .i64 e] w fun r w' => r = .returned (.int .i64 0) ∧ w = w' := by
  go_enter Try.func53, Try.ntmps53
  go_wp2
  go_ret
  exact ⟨rfl, rfl⟩

/-- May a file be called so? -/
def nameB (s : ByteArray) : Bool := decide (1 ≤ s.size ∧ s.size ≤ 40)

theorem isName_any (s : ByteArray) (w : World) (hs : s.size ≤ maxLen) :
    Calls Try.prog 54 #[.string s] w fun r w' => r = .returned (.bool (nameB s)) ∧ w = w' := by
  unfold nameB
  go_enter Try.func54, Try.ntmps54
  by_cases h1 : 1 ≤ s.size
  · by_cases h2 : s.size ≤ 40
    · go_wp2
      go_ret
      simp [h1, h2]; omega
    · go_wp2
      go_ret
      simp [h1, h2]; omega
  · go_wp2
    go_ret
    simp [h1]

/-- The first of a list of numbers that is not 0. -/
def fst0 : List Int → Int
  | [] => 0
  | e :: l => if e = 0 then fst0 l else e

theorem fst0_drop (l : List Int) (k : Nat) (h : k < l.length) : fst0 (l.drop k) = if l.getD k 0 = 0 then fst0 (l.drop (k+1)) else l.getD k 0 := by
  rw [List.drop_eq_getElem_cons h]
  simp [fst0, List.getD, List.getElem?_eq_getElem h]

set_option maxHeartbeats 400000 in
theorem first_any (b cap : Nat) (l : List Int) (w : World) (hl : l.length ≤ 100)
    (hc : ∀ j, j < l.length → w.cell? ⟨b, j, none⟩ = some (.int .i64 (l.getD j 0))) :
    Calls Try.prog 47 #[.slice (some ⟨b, 0, none⟩) l.length cap] w fun r w' => r = .returned (.int .i64 (fst0 l)) ∧ w = w' := by
  go_enter Try.func47, Try.ntmps47
  go_wp2
  go_loop [4, 7] (fun _ i => ∃ k : Nat, k ≤ l.length ∧ i = .int .i64 k ∧ Hid (fst0 l = fst0 (l.drop k))) (fun _ i => l.length - (intOf i).toNat)
  case atStart => exact ⟨0, Nat.zero_le _, rfl, rfl⟩
  case round =>
    obtain ⟨k, hk, rfl, hf⟩ := hrel
    by_cases hlt : k < l.length
    · have hcell := hc k hlt
      have hcell' : w.cell? ⟨b, 0 + k, none⟩ = some (.int .i64 (l.getD k 0)) := by simpa using hcell
      have hd := fst0_drop l k hlt
      clear hc
      by_cases h0 : l.getD k 0 = 0
      · rw [h0] at hcell hcell'
        have hf' : Hid (fst0 l = fst0 (l.drop (k+1))) := by rw [hf.out, hd, if_pos h0]; rfl
        clear hd h0 hf
        go_wp2
        go_round
        case rel => exact ⟨k + 1, by omega, by go_num, hf'⟩
        case measure => simp [intOf]; omega
      · obtain ⟨e, he⟩ : ∃ e, e = l.getD k 0 := ⟨_, rfl⟩
        rw [← he] at hcell hcell' hd h0
        rw [if_neg h0] at hd
        have hf' : Hid (fst0 l = e) := by rw [hf.out, hd]; rfl
        clear hd hf he
        go_wp2
        go_ret
        exact ⟨ret_int hf'.out.symm, rfl⟩
    · have : fst0 l = 0 := by rw [hf.out, List.drop_eq_nil_of_le (by omega)]; rfl
      have H : Hid (fst0 l = 0) := this
      clear this hf
      go_wp2
      go_ret
      exact ⟨ret_int H.out.symm, rfl⟩

theorem first_two (a b r : Int) (w : World) (h : fst0 [a, b] = r) :
    Calls Try.prog 47 #[.slice (some ⟨w.heap.size, 0, none⟩) 2 2] (w.alloc (.cells #[.int .i64 a, .int .i64 b] 33)) fun e w' => e = .returned (.int .i64 r) ∧ w.alloc (.cells #[.int .i64 a, .int .i64 b] 33) = w' := by
  refine (first_any w.heap.size 2 [a, b] (w.alloc (.cells #[.int .i64 a, .int .i64 b] 33)) (by simp) ?_).mono ?_
  · intro j hj
    match j, hj with
    | 0, _ => simp
    | 1, _ => simp
  · rintro e w' ⟨rfl, rfl⟩
    exact ⟨ret_int h, rfl⟩

theorem first_four (a b c d r : Int) (w : World) (h : fst0 [a, b, c, d] = r) :
    Calls Try.prog 47 #[.slice (some ⟨w.heap.size, 0, none⟩) 4 4] (w.alloc (.cells #[.int .i64 a, .int .i64 b, .int .i64 c, .int .i64 d] 33)) fun e w' => e = .returned (.int .i64 r) ∧ w.alloc (.cells #[.int .i64 a, .int .i64 b, .int .i64 c, .int .i64 d] 33) = w' := by
  refine (first_any w.heap.size 4 [a, b, c, d] (w.alloc (.cells #[.int .i64 a, .int .i64 b, .int .i64 c, .int .i64 d] 33)) (by simp) ?_).mono ?_
  · intro j hj
    match j, hj with
    | 0, _ => simp
    | 1, _ => simp
    | 2, _ => simp
    | 3, _ => simp
  · rintro e w' ⟨rfl, rfl⟩
    exact ⟨ret_int h, rfl⟩

theorem called_any (F : Nat) (s : ByteArray) (w : World) (hc : w.cell? ⟨F, 0, none⟩ = some (.string s)) :
    Calls Try.prog 69 #[.pointer (some ⟨F, 0, none⟩)] w fun r w' => r = .returned (.string s) ∧ w = w' := by
  go_enter Try.func69, Try.ntmps69
  go_wp2
  go_ret
  exact ⟨rfl, rfl⟩

theorem str_eq {a b : ByteArray} (h : a = b) : (a.toList == b.toList) = true := by subst h; simp
theorem str_ne {a b : ByteArray} (h : a ≠ b) : (a.toList == b.toList) = false := by
  rw [beq_eq_false_iff_ne]
  intro e
  rw [ByteArray.toList_eq, ByteArray.toList_eq] at e
  apply h
  cases a; cases b
  simp only [ByteArray.mk.injEq]
  exact Array.toList_inj.1 e

set_option maxHeartbeats 800000 in
/-- where, at a row of files: the place k. -/
theorem whereF_hit (R cap n k : Nat) (Fs : Nat → Nat) (nm : Nat → ByteArray) (s : ByteArray) (w : World) (hn : n ≤ 1000) (hk : k < n)
    (hp : ∀ j, j < n → w.cell? ⟨R, j, none⟩ = some (.pointer (some ⟨Fs j, 0, none⟩)))
    (hnm : ∀ j, j < n → w.cell? ⟨Fs j, 0, none⟩ = some (.string (nm j)))
    (hhit : nm k = s) (hno : ∀ j, j < k → nm j ≠ s) :
    Calls Try.prog 68 #[.slice (some ⟨R, 0, none⟩) n cap, .string s, .func (.func 69) #[] #[]] w fun r w' => r = .returned (.int .i64 k) ∧ w = w' := by
  go_enter Try.func68, Try.ntmps68
  go_wp2
  go_loop [7, 8, 11] (fun _ _ i => ∃ j : Nat, j ≤ k ∧ i = .int .i64 j) (fun _ _ i => n - (intOf i).toNat)
  case atStart => exact ⟨0, Nat.zero_le _, rfl⟩
  case round =>
    obtain ⟨j, hj, rfl⟩ := hrel
    have hlt : j < n := by omega
    have hcell := hp j hlt
    have hcell' : w.cell? ⟨R, 0 + j, none⟩ = some (.pointer (some ⟨Fs j, 0, none⟩)) := by simpa using hcell
    have hs := hnm j hlt
    clear hp hnm
    by_cases hjk : j = k
    · subst hjk
      have ht := str_eq hhit
      clear hhit hno
      go_wp2_with (go_at_call 69; refine (called_any _ _ _ hs).mono ?_; rintro e w' ⟨rfl, rfl⟩)
      go_ret
      exact ⟨rfl, rfl⟩
    · have ht := str_ne (hno j (by omega))
      clear hhit hno
      go_wp2_with (go_at_call 69; refine (called_any _ _ _ hs).mono ?_; rintro e w' ⟨rfl, rfl⟩)
      go_round
      case rel => exact ⟨j + 1, by omega, by go_num⟩
      case measure => simp [intOf]; omega

set_option maxHeartbeats 800000 in
/-- where, at a row of files of which none is called so. -/
theorem whereF_miss (ao : Option Addr) (R cap n : Nat) (Fs : Nat → Nat) (nm : Nat → ByteArray) (s : ByteArray) (w : World) (hn : n ≤ 1000)
    (ha : 0 < n → ao = some ⟨R, 0, none⟩)
    (hp : ∀ j, j < n → w.cell? ⟨R, j, none⟩ = some (.pointer (some ⟨Fs j, 0, none⟩)))
    (hnm : ∀ j, j < n → w.cell? ⟨Fs j, 0, none⟩ = some (.string (nm j)))
    (hno : ∀ j, j < n → nm j ≠ s) :
    Calls Try.prog 68 #[.slice ao n cap, .string s, .func (.func 69) #[] #[]] w fun r w' => r = .returned (.int .i64 (-1)) ∧ w = w' := by
  go_enter Try.func68, Try.ntmps68
  go_wp2
  go_loop [7, 8, 11] (fun _ _ i => ∃ j : Nat, j ≤ n ∧ i = .int .i64 j) (fun _ _ i => n - (intOf i).toNat)
  case atStart => exact ⟨0, Nat.zero_le _, rfl⟩
  case round =>
    obtain ⟨j, hj, rfl⟩ := hrel
    by_cases hlt : j < n
    · obtain rfl := ha (by omega)
      have hcell := hp j hlt
      have hcell' : w.cell? ⟨R, 0 + j, none⟩ = some (.pointer (some ⟨Fs j, 0, none⟩)) := by simpa using hcell
      have hs := hnm j hlt
      have ht := str_ne (hno j hlt)
      clear hp hnm hno ha
      go_wp2_with (go_at_call 69; refine (called_any _ _ _ hs).mono ?_; rintro e w' ⟨rfl, rfl⟩)
      go_round
      case rel => exact ⟨j + 1, by omega, by go_num⟩
      case measure => simp [intOf]; omega
    · clear hp hnm hno ha
      go_wp2
      go_ret
      exact ⟨rfl, rfl⟩

end Go.Proofs.Ytgbbbjddooiaeaa
