/-
  A place found in a table; a row changed.
-/
import Derived.Test.YthmjlomlceljkaaHi8
import Derived.Deep.DeepFit
import Derived.Lib.AppendZeros
import Derived.Deep.RegionLaw
import Derived.Deep.RegionWith
import Derived.Lib.EndianBits
import Derived.Deep.MidRow
namespace Go.Proofs.Ythmjlomlceljkaa
open Go.RowKit
set_option linter.unusedSimpArgs false
set_option linter.unusedVariables false

theorem tbl_lt : ∀ {L : List FcE} {last : Int} {i j : Nat}, tblB last L = true → i < j → j < L.length → (gFc L i).tenant < (gFc L j).tenant
  | [], _, _, _, _, _, h => by simp at h
  | x :: l, last, 0, j + 1, ht, _, hj => by
    rw [tblB_cons, Bool.and_eq_true] at ht
    have hj' : j < l.length := by simpa using hj
    have h1 : gFc (x :: l) (j + 1) = gFc l j := rfl
    have h2 : gFc (x :: l) 0 = x := rfl
    rw [h1, h2]
    exact (tblB_mem ht.2 _ (List.mem_of_getElem? (gFc_lt hj'))).1
  | x :: l, last, i + 1, j + 1, ht, hij, hj => by
    rw [tblB_cons, Bool.and_eq_true] at ht
    exact tbl_lt (L := l) ht.2 (by omega) (by simpa using hj)
theorem bs_pos {L : List FcE} {n : Int} {k : Nat} (ht : tblB 0 L = true) (h1 : ∀ m, m < k → (gFc L m).tenant < n) (h2 : ∀ m, k ≤ m → m < L.length → n ≤ (gFc L m).tenant) (hk : k ≤ L.length) :
    k = (L.filter (fun f => decide (f.tenant < n))).length ∧ L.take k = L.filter (fun f => decide (f.tenant < n)) ∧ decide (k < L.length ∧ (gFc L k).tenant = n) = (L.find? (fun f => decide (f.tenant = n))).isSome := by
  have hmem : ∀ f ∈ L.take k, f.tenant < n := fun f hf => by
    obtain ⟨m, hm, rfl⟩ := List.mem_iff_getElem.1 hf
    have hm' : m < k := by simp at hm; omega
    have := h1 m hm'
    rw [gFc_of (List.getElem?_eq_getElem (show m < L.length by omega))] at this
    rw [List.getElem_take]
    exact this
  have hmem2 : ∀ f ∈ L.drop k, n ≤ f.tenant := fun f hf => by
    obtain ⟨m, hm, rfl⟩ := List.mem_iff_getElem.1 hf
    have hm' : k + m < L.length := by simp at hm; omega
    have := h2 (k + m) (by omega) hm'
    rw [gFc_of (List.getElem?_eq_getElem hm')] at this
    rw [List.getElem_drop]
    exact this
  have hfl : L.filter (fun f => decide (f.tenant < n)) = L.take k := by
    conv => lhs; rw [← List.take_append_drop k L]
    rw [List.filter_append, List.filter_eq_self.2 (fun f hf => by simpa using hmem f hf), List.filter_eq_nil_iff.2 (fun f hf => by have := hmem2 f hf; simp; omega), List.append_nil]
  refine ⟨by rw [hfl, List.length_take]; omega, hfl.symm, ?_⟩
  have hs := tbl_split n ht
  rw [hfl, List.append_assoc] at hs
  have hd : L.drop k = (match L.find? (fun f => decide (f.tenant = n)) with | some f => [f] | none => []) ++ L.filter (fun f => decide (n < f.tenant)) := by
    have h3 := List.take_append_drop k L
    have h4 : L.take k ++ L.drop k = L.take k ++ ((match L.find? (fun f => decide (f.tenant = n)) with | some f => [f] | none => []) ++ L.filter (fun f => decide (n < f.tenant))) := h3.trans hs
    exact List.append_cancel_left h4
  cases hf : L.find? (fun f => decide (f.tenant = n)) with
  | some f =>
    rw [hf] at hd
    have hft : f.tenant = n := by simpa using List.find?_some hf
    have hlt : k < L.length := by
      rcases Nat.lt_or_ge k L.length with h | h
      · exact h
      · rw [List.drop_of_length_le h] at hd; simp at hd
    have hg : L[k]? = some f := by
      have : (L.drop k)[0]? = some f := by rw [hd]; rfl
      rwa [List.getElem?_drop, Nat.add_zero] at this
    rw [gFc_of hg]
    simp [hlt, hft]
  | none =>
    rw [hf] at hd
    rw [Option.isSome_none]
    refine decide_eq_false ?_
    rintro ⟨hlt, he⟩
    have hg : (L.drop k)[0]? = some (gFc L k) := by rw [List.getElem?_drop, Nat.add_zero]; exact gFc_lt hlt
    rw [hd] at hg
    have := List.mem_of_getElem? hg
    rw [List.nil_append] at this
    have h5 : n < (gFc L k).tenant := by simpa using (List.mem_filter.1 this).2
    omega
set_option maxRecDepth 100000 in
set_option maxHeartbeats 8000000 in
theorem bsearch_any (v : Value) (L : List FcE) (tn : Int) (w : World) (h : FcV w v L) (ht : tblB 0 L = true) (hn : 1 ≤ tn ∧ tn ≤ 16) :
    Calls Try.prog 43 #[v, .int .i64 tn, .func (.func 44) #[] #[]] w fun e w' => e = .returned (.tuple #[.int .i64 ((L.filter (fun f => decide (f.tenant < tn))).length : Nat), .bool ((L.find? (fun f => decide (f.tenant = tn))).isSome)]) ∧ Below w.heap.size w w' := by
  obtain ⟨a, n, cap, rfl, HN, m1, m2⟩ := h.sh
  have H1 := Lib.hid h
  clear h
  have HTM := Lib.hid (fun f hf => (tblB_mem ht f hf).2)
  have HLT := Lib.hid (fun i j h1 h2 => tbl_lt (i := i) (j := j) ht h1 h2)
  rw [← HN.out] at HLT
  have HPOS := Lib.hid (fun (k : Nat) h1 h2 hk => bs_pos (n := tn) (k := k) ht h1 h2 hk)
  have h16 : n ≤ 16 := by have := tbl_len16 ht; have := HN.out; omega
  obtain ⟨A, hA⟩ : ∃ A, A = (L.filter (fun f => decide (f.tenant < tn))).length := ⟨_, rfl⟩
  obtain ⟨T, hT⟩ : ∃ T, T = (L.find? (fun f => decide (f.tenant = tn))).isSome := ⟨_, rfl⟩
  rw [← hA, ← hT] at HPOS
  rw [← hA, ← hT]
  rw [← HN.out] at HPOS
  clear ht hA hT
  go_enter Try.func43, Try.ntmps43
  go_wp2_with fail
  go_loopw [9, 10, 11] (fun vi vj _ wr => ∃ (i j : Nat), i ≤ j ∧ j ≤ n ∧ vi = .int .i64 i ∧ vj = .int .i64 j ∧ (∀ m, m < i → (gFc L m).tenant < tn) ∧ (∀ m, j ≤ m → m < n → tn ≤ (gFc L m).tenant) ∧ Below w.heap.size w wr) (fun vi vj _ _ => (intOf vj - intOf vi).toNat)
  case atStart => exact ⟨0, n, Nat.zero_le _, Nat.le_refl _, rfl, rfl, (fun m hm => by omega), (fun m hm hm2 => by omega), Below.refl _ _⟩
  case round =>
    obtain ⟨i, j, hij, hjn, rfl, rfl, r1, r2, hB⟩ := hrel
    have HB := Lib.hid hB
    have R1 := Lib.hid r1
    have R2 := Lib.hid r2
    clear hB r1 r2
    by_cases hlt : i < j
    · obtain ⟨h, hh⟩ : ∃ h, h = (i + j) / 2 := ⟨_, rfl⟩
      have hhr : i ≤ h ∧ h < j := by omega
      obtain ⟨g, o, x, ea, g1, hx, c0, c1, c2, c3⟩ := (H1.out.below HB.out).at h (by omega)
      subst ea
      have hxe := gFc_of hx
      have hxm := HTM.out x (List.mem_of_getElem? hx)
      have HXE := Lib.hid hxe
      have ww1 : ((i : Int) + (j : Int)) / 2 = (h : Int) := by omega
      have ww2 : IntKind.i64.wrap ((h : Int) + 1) = (h : Int) + 1 := IntWalk.i64_in _ (by omega)
      have b1 : ((i : Int) < (j : Int)) = True := eq_true (by omega)
      have b1' : (i < j) = True := eq_true hlt
      have b2 : (h < n) = True := eq_true (by omega)
      have b3 : ((h : Int) < (n : Int)) = True := eq_true (by omega)
      have HC := Lib.hid (fun W => cmpF_any x tn W (by omega))
      have hbd : IntKind.i64.wrap (x.tenant - tn) = x.tenant - tn := IntWalk.i64_in _ (by omega)
      have HH := Lib.hid hhr
      have HHE := Lib.hid hh
      clear hx hxe hxm hh hhr hlt
      by_cases hlo : x.tenant - tn < 0
      · go_wp2_with (go_at_call 44; refine Calls.mono (HC.out _) ?_; rintro e w' ⟨rfl, hB⟩)
        go_roundw
        case rel => exact ⟨h + 1, j, by have := HH.out; omega, hjn, by go_num, rfl, (fun m hm => by
          rcases Nat.lt_or_ge m h with h9 | h9
          · have := HLT.out m h h9 (by have := HH.out; omega)
            rw [HXE.out] at this
            omega
          · obtain rfl : m = h := by omega
            rw [HXE.out]; omega), R2.out, HB.out.trans (hB.mono HB.out.size)⟩
        case measure => simp [intOf]; have := HH.out; omega
      · go_wp2_with (go_at_call 44; refine Calls.mono (HC.out _) ?_; rintro e w' ⟨rfl, hB⟩)
        go_roundw
        case rel => exact ⟨i, h, by have := HH.out; omega, by have := HH.out; omega, rfl, by go_num, R1.out, (fun m hm hm2 => by
          rcases Nat.eq_or_lt_of_le hm with rfl | h9
          · rw [HXE.out]; omega
          · have := HLT.out h m h9 hm2
            rw [HXE.out] at this
            omega), HB.out.trans (hB.mono HB.out.size)⟩
        case measure => simp [intOf]; have := HH.out; omega
    · obtain rfl : i = j := by omega
      obtain ⟨p1, p2, p3⟩ := HPOS.out i R1.out R2.out hjn
      have P2 := Lib.hid p2
      by_cases hin : i < n
      · obtain ⟨g, o, x, ea, g1, hx, c0, c1, c2, c3⟩ := (H1.out.below HB.out).at i hin
        subst ea
        have hxe := gFc_of hx
        have hxm := HTM.out x (List.mem_of_getElem? hx)
        have HC := Lib.hid (fun W => cmpF_any x tn W (by omega))
        have hbd : IntKind.i64.wrap (x.tenant - tn) = x.tenant - tn := IntWalk.i64_in _ (by omega)
        rw [hxe] at p3
        have hq : (x.tenant - tn == 0) = T := by
          rw [← p3]
          by_cases h0 : x.tenant = tn
          · rw [decide_eq_true ⟨hin, h0⟩, h0]; simp
          · rw [decide_eq_false (fun h => h0 h.2)]; simp; omega
        have b2 : (i < n) = True := eq_true hin
        have b3 : ((i : Int) < (n : Int)) = True := eq_true (by omega)
        have P1 := Lib.hid p1
        clear hx hxe hxm p1 p2 p3
        go_wp2_with (go_at_call 44; refine Calls.mono (HC.out _) ?_; rintro e w' ⟨rfl, hB⟩)
        exact bodyPost_ret (v := .tuple #[.int .i64 (i : Nat), .bool T]) (by simp [results, Try.results43, go_sem]) rfl ⟨by rw [P1.out], HB.out.trans (hB.mono HB.out.size)⟩
      · obtain rfl : i = n := by omega
        have hq : T = false := by rw [← p3]; exact decide_eq_false (fun h => by omega)
        have P1 := Lib.hid p1
        subst hq
        clear p1 p2 p3
        go_wp2_with fail
        exact bodyPost_ret (v := .tuple #[.int .i64 (i : Nat), .bool false]) (by simp [results, Try.results43, go_sem]) rfl ⟨by rw [P1.out], HB.out⟩
theorem llFc_set : ∀ (L : List FcE) (k : Nat) (x : FcE) (r b : Int), L[k]? = some x → ((llFc L).set (k * 4 + 2) (.int .i64 r)).set (k * 4 + 3) (.int .i64 b) = llFc (L.set k ⟨x.tick, x.tenant, r, b⟩)
  | [], k, x, r, b, h => by simp at h
  | y :: l, 0, x, r, b, h => by
    obtain rfl : y = x := by simpa using h
    rfl
  | y :: l, k + 1, x, r, b, h => by
    have ih := llFc_set l k x r b (by simpa using h)
    show (((y.cells ++ llFc l).set ((k + 1) * 4 + 2) _).set ((k + 1) * 4 + 3) _) = y.cells ++ llFc (l.set k _)
    rw [← ih, List.set_append_right _ _ (by rw [fc_cells_len]; omega), List.set_append_right _ _ (by rw [fc_cells_len]; omega), show (k + 1) * 4 + 2 - y.cells.length = k * 4 + 2 by rw [fc_cells_len]; omega, show (k + 1) * 4 + 3 - y.cells.length = k * 4 + 3 by rw [fc_cells_len]; omega]
theorem FcO.setRB {W : World} {M g k : Nat} {v : Value} {L : List FcE} {x : FcE} (h : FcO M W v (some g) L) (hk : L[k]? = some x) (r b : Int) (hr : -9223372036854775808 ≤ r ∧ r ≤ 9223372036854775807) (hb : -9223372036854775808 ≤ b ∧ b ≤ 9223372036854775807) : FcO M ((W.setCell ⟨g, k * 4 + 2, none⟩ (.int .i64 r)).setCell ⟨g, k * 4 + 3, none⟩ (.int .i64 b)) v (some g) (L.set k ⟨x.tick, x.tenant, r, b⟩) := by
  refine ⟨?_, fun y hy => ?_, h.2.2⟩
  · have := row_setCell (row_setCell h.1 (k * 4 + 2) (.int .i64 r)) (k * 4 + 3) (.int .i64 b)
    rw [llFc_set L k x r b hk] at this
    rw [List.length_set]
    exact this
  · rcases List.mem_or_eq_of_mem_set hy with hy | rfl
    · exact h.2.1 y hy
    · have := h.2.1 x (List.mem_of_getElem? hk)
      exact ⟨this.1, this.2.1, hr, hb⟩
end Go.Proofs.Ythmjlomlceljkaa
