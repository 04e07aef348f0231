/-
  Package conf: what goes over the terms of rows: the contract of an iterator.
-/
import Derived.Test.YtnaoajdbopminaaCl2
import Derived.Test.YtnaoajdbopminaaCf6
namespace Go.Proofs.Ytnaoajdbopminaa
open Go.RowKit Go.Shelf
set_option linter.unusedSimpArgs false
set_option linter.unusedVariables false

attribute [local go_sem] Oper.semAt_some

/-- an index and its term -/
def encT (x : Int × Int) : Array Value := #[.int .i64 x.1, .int .i64 x.2]
def headL (base bt : Int) : List (Int × Int) := if 0 < base then [(base, bt)] else []
/-- the indices and terms of the first k entries, that of the base ahead of them -/
def termsL (base bt : Int) (E : Nat → Ent) : Nat → List (Int × Int)
  | 0 => headL base bt
  | k + 1 => termsL base bt E k ++ [(base + k + 1, (E k).t)]
theorem termsL_len (base bt : Int) (E : Nat → Ent) : ∀ k, (termsL base bt E k).length ≤ k + 1
  | 0 => by unfold termsL headL; split <;> simp
  | k + 1 => by have := termsL_len base bt E k; unfold termsL; simp; omega

set_option maxRecDepth 100000 in
set_option maxHeartbeats 4000000 in
theorem terms1_in (nn : Nat) (hnn : 1 ≤ nn) (l Bs n₀ : Nat) (base bt : Int) (a : Option Addr) (len cap b o : Nat) (E : Nat → Ent) (hb : 0 ≤ base ∧ base ≤ 1099511627776 - len ∧ len ≤ 4096) (w₀ : World) (hn₀ : n₀ = w₀.heap.size) (hs : EntsIn w₀ a len cap b o E) (J Jx : List (Int × Int) → World → Prop)
    (hY : ∀ pre x W, J pre W → pre.length < len + 1 → YieldAt Fence.wide (nn - 1) Try.prog l (encT x) W fun e W' =>
      (e = .returned (.bool true) ∧ J (pre ++ [x]) W' ∧ KpB n₀ Bs W W') ∨ (e = .returned (.bool false) ∧ Jx (pre ++ [x]) W'))
    (W : World) (hJa : ∀ pre W1 X, J pre W1 → Below W1.heap.size W1 X → J pre X) (hW : Below n₀ w₀ W) (hBs : Bs < W.heap.size) (h0 : W.cell? ⟨Bs, 0, none⟩ = some (.int .i64 base)) (h1 : W.cell? ⟨Bs, 1, none⟩ = some (.int .i64 bt)) (h2 : W.cell? ⟨Bs, 2, none⟩ = some (.slice a len cap)) (hJ0 : J [] W) :
    CallsIn Fence.wide nn Try.prog 101 #[.func (.yield l) #[] #[], .pointer (some ⟨Bs, 0, none⟩)] W fun e W' => (∃ v, e = .returned v) ∧
      ((∃ ys, ys = termsL base bt E len ∧ J ys W') ∨ (∃ pre, (∃ k, k ≤ len ∧ pre = termsL base bt E k ∧ pre ≠ []) ∧ Jx pre W')) := by
  have hm := hs.max
  have hl := hs.le
  unfold maxLen at hm
  obtain ⟨hb0, hb1, hb2⟩ := hb
  have HS := Lib.hid hs
  have HN := Lib.hid hn₀
  have HW := Lib.hid hW
  refine callsIn_of_wp Try.func101 rfl trivial ?_ rfl
  simp only [Try.ntmps101, List.size_toArray, List.length_cons, List.length_nil, Nat.reduceAdd, Nat.reduceSub, Array.replicate_succ, Array.replicate_zero, List.push_toArray, List.append_toArray, List.nil_append, List.cons_append]
  have hW0 : w₀.heap.size ≤ W.heap.size := hW.size
  by_cases hpos : 0 < base
  · have bp : decide (0 < base) = true := by simpa using hpos
    have hY1 := hY [] (base, bt) W hJ0 (by simp)
    have hE : encT (base, bt) = #[.int .i64 base, .int .i64 bt] := rfl
    rw [hE] at hY1
    have HY := Lib.hid hY
    have HJA := Lib.hid hJa
    obtain ⟨fn, tmps, assign, body, hy, hR⟩ := hY1
    clear hs hn₀ hW hY hE hJ0 hJa
    gi_wp2_with fail
    refine hR.mono ?_
    rintro e W3 (⟨rfl, hJ3, hB3, hK3⟩ | ⟨rfl, hX3⟩)
    · have hh : headL base bt = [(base, bt)] := by unfold headL; rw [if_pos hpos]
      have HJ3 : Hid (J (termsL base bt E 0) W3) := Lib.hid (by show J (headL base bt) W3; rw [hh]; exact hJ3)
      have HKB : Hid (KpB n₀ Bs W W3) := Lib.hid ⟨hB3, hK3⟩
      have r2 : W3.cell? ⟨Bs, 2, none⟩ = some (.slice a len cap) := (World.cell?_of_block (a := ⟨Bs, 2, none⟩) hK3).trans h2
      clear hJ3 hB3 hK3 hR hh
      gi_wp2_with fail
      gi_loopw [20] (fun i wr => ∃ k : Nat, k ≤ len ∧ i = .int .i64 k ∧ J (termsL base bt E k) wr ∧ KpB n₀ Bs W wr) (fun i _ => len - (intOf i).toNat)
      case atStart => exact ⟨0, Nat.zero_le _, rfl, HJ3.out, HKB.out⟩
      case round =>
        obtain ⟨k, hk, rfl, hJs, hnx, hnb⟩ := hrel
        have c0 : wr.cell? ⟨Bs, 0, none⟩ = some (.int .i64 base) := (World.cell?_of_block (a := ⟨Bs, 0, none⟩) hnb).trans h0
        have hBsr : Bs < wr.heap.size := Nat.lt_of_lt_of_le hBs hnx.size
        have HJs := Lib.hid hJs
        have HNX := Lib.hid hnx
        have HNB := Lib.hid hnb
        by_cases hlt : k < len
        · obtain ⟨e0, e1⟩ := HS.out.at_ (by omega)
          subst e0
          have HSr := Lib.hid (HS.out.below (by rw [← HN.out]; exact HW.out.trans hnx))
          obtain ⟨k0, k1, k2, k3, k4⟩ := HSr.out.cell k hlt
          obtain ⟨en, hen⟩ : ∃ en, en = E k := ⟨_, rfl⟩
          have HT : Hid (termsL base bt E (k + 1) = termsL base bt E k ++ [(base + k + 1, en.t)]) := Lib.hid (by rw [hen]; rfl)
          rw [← hen] at k0 k1 k2 k3 k4
          obtain ⟨et, ek, es, est, eda, edl, edc⟩ := en
          simp only at k0 k1 k2 k3 k4 HT
          have hBx : Below wr.heap.size wr (wr.alloc (.cells #[.int .i64 et, .int .i8 ek, .int .i64 es, .int .u8 est, .slice eda edl edc] 49)) := (Below.refl _ _).alloc (Nat.le_refl _) _
          have hY1 := HY.out (termsL base bt E k) (base + k + 1, et) _ (HJA.out _ _ _ hJs hBx) (by have := termsL_len base bt E k; omega)
          have hE : encT (base + k + 1, et) = #[.int .i64 (base + k + 1), .int .i64 et] := rfl
          rw [hE] at hY1
          obtain ⟨fn, tmps, assign, body, hy, hR⟩ := hY1
          have HBX := Lib.hid hBx
          clear hE hen hJs hnx hnb hBx
          gi_wp2_with fail
          refine hR.mono ?_
          rintro e W3 (⟨rfl, hJ3, hB3, hK3⟩ | ⟨rfl, hX3⟩)
          · have HJ4 : Hid (J (termsL base bt E (k + 1)) W3) := Lib.hid (by rw [HT.out]; exact hJ3)
            have HB4 : Hid (Below n₀ W W3) := Lib.hid ((HNX.out.trans (HBX.out.mono (by rw [HN.out]; exact Nat.le_trans hW0 HNX.out.size))).trans hB3)
            have HK4 : Hid (W3.heap[Bs]? = W.heap[Bs]?) := Lib.hid (hK3.trans ((HBX.out.block Bs hBsr).trans HNB.out))
            clear hJ3 hB3 hK3 hR
            gi_wp2_with fail
            go_roundw
            case rel => exact ⟨k + 1, by omega, by go_num, HJ4.out, HB4.out, HK4.out⟩
            case measure => first | (simp [intOf]; done) | (simp [intOf]; omega)
          · gi_wp2_with fail
            refine bodyPost_ret (results_none rfl _ _ _) rfl ?_
            exact ⟨⟨_, rfl⟩, .inr ⟨_, ⟨k + 1, by omega, HT.out.symm, by simp⟩, hX3⟩⟩
        · obtain rfl : k = len := by omega
          clear HY
          gi_wp2
          go_end0
          exact ⟨⟨_, rfl⟩, .inl ⟨_, rfl, HJs.out⟩⟩
    · have hh : headL base bt = [(base, bt)] := by unfold headL; rw [if_pos hpos]
      gi_wp2_with fail
      refine bodyPost_ret (results_none rfl _ _ _) rfl ?_
      exact ⟨⟨_, rfl⟩, .inr ⟨_, ⟨0, by omega, hh.symm, by simp⟩, hX3⟩⟩
  · have bp : decide (0 < base) = false := by simpa using hpos
    have HY := Lib.hid hY
    have HJA := Lib.hid hJa
    have hh : headL base bt = [] := by unfold headL; rw [if_neg hpos]
    have HJ3 : Hid (J (termsL base bt E 0) W) := Lib.hid (by show J (headL base bt) W; rw [hh]; exact hJ0)
    have HKB : Hid (KpB n₀ Bs W W) := Lib.hid ⟨Below.refl _ _, rfl⟩
    clear hs hn₀ hW hY hJ0 hJa hh
    gi_wp2_with fail
    refine ⟨(by intro f hf; cases hf), ?_⟩
    gi_wp2_with fail
    gi_loopw [20] (fun i wr => ∃ k : Nat, k ≤ len ∧ i = .int .i64 k ∧ J (termsL base bt E k) wr ∧ KpB n₀ Bs W wr) (fun i _ => len - (intOf i).toNat)
    case atStart => exact ⟨0, Nat.zero_le _, rfl, HJ3.out, HKB.out⟩
    case round =>
      obtain ⟨k, hk, rfl, hJs, hnx, hnb⟩ := hrel
      have c0 : wr.cell? ⟨Bs, 0, none⟩ = some (.int .i64 base) := (World.cell?_of_block (a := ⟨Bs, 0, none⟩) hnb).trans h0
      have hBsr : Bs < wr.heap.size := Nat.lt_of_lt_of_le hBs hnx.size
      have HJs := Lib.hid hJs
      have HNX := Lib.hid hnx
      have HNB := Lib.hid hnb
      by_cases hlt : k < len
      · obtain ⟨e0, e1⟩ := HS.out.at_ (by omega)
        subst e0
        have HSr := Lib.hid (HS.out.below (by rw [← HN.out]; exact HW.out.trans hnx))
        obtain ⟨k0, k1, k2, k3, k4⟩ := HSr.out.cell k hlt
        obtain ⟨en, hen⟩ : ∃ en, en = E k := ⟨_, rfl⟩
        have HT : Hid (termsL base bt E (k + 1) = termsL base bt E k ++ [(base + k + 1, en.t)]) := Lib.hid (by rw [hen]; rfl)
        rw [← hen] at k0 k1 k2 k3 k4
        obtain ⟨et, ek, es, est, eda, edl, edc⟩ := en
        simp only at k0 k1 k2 k3 k4 HT
        have hBx : Below wr.heap.size wr (wr.alloc (.cells #[.int .i64 et, .int .i8 ek, .int .i64 es, .int .u8 est, .slice eda edl edc] 49)) := (Below.refl _ _).alloc (Nat.le_refl _) _
        have hY1 := HY.out (termsL base bt E k) (base + k + 1, et) _ (HJA.out _ _ _ hJs hBx) (by have := termsL_len base bt E k; omega)
        have hE : encT (base + k + 1, et) = #[.int .i64 (base + k + 1), .int .i64 et] := rfl
        rw [hE] at hY1
        obtain ⟨fn, tmps, assign, body, hy, hR⟩ := hY1
        have HBX := Lib.hid hBx
        clear hE hen hJs hnx hnb hBx
        gi_wp2_with fail
        refine hR.mono ?_
        rintro e W3 (⟨rfl, hJ3, hB3, hK3⟩ | ⟨rfl, hX3⟩)
        · have HJ4 : Hid (J (termsL base bt E (k + 1)) W3) := Lib.hid (by rw [HT.out]; exact hJ3)
          have HB4 : Hid (Below n₀ W W3) := Lib.hid ((HNX.out.trans (HBX.out.mono (by rw [HN.out]; exact Nat.le_trans hW0 HNX.out.size))).trans hB3)
          have HK4 : Hid (W3.heap[Bs]? = W.heap[Bs]?) := Lib.hid (hK3.trans ((HBX.out.block Bs hBsr).trans HNB.out))
          clear hJ3 hB3 hK3 hR
          gi_wp2_with fail
          go_roundw
          case rel => exact ⟨k + 1, by omega, by go_num, HJ4.out, HB4.out, HK4.out⟩
          case measure => first | (simp [intOf]; done) | (simp [intOf]; omega)
        · gi_wp2_with fail
          refine bodyPost_ret (results_none rfl _ _ _) rfl ?_
          exact ⟨⟨_, rfl⟩, .inr ⟨_, ⟨k + 1, by omega, HT.out.symm, by simp⟩, hX3⟩⟩
      · obtain rfl : k = len := by omega
        clear HY
        gi_wp2
        go_end0
        exact ⟨⟨_, rfl⟩, .inl ⟨_, rfl, HJs.out⟩⟩
end Go.Proofs.Ytnaoajdbopminaa
