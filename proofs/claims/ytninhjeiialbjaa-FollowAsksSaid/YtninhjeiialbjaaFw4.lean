/-
  slices.Values and slices.AppendSeq of ints: a row of the call's own, copied by an iterator.
-/
import Derived.Test.YtninhjeiialbjaaFw3
namespace Go.Proofs.Ytninhjeiialbjaa
open Go.RowKit
set_option linter.unusedSimpArgs false
set_option linter.unusedVariables false
open Go.Sort hiding Below Holds

attribute [local go_sem] Oper.semAt_some

theorem values_any (v : Value) (w : World) (hv : ∃ a n c, v = .slice a n c) : Calls Try.prog 112 #[v] w fun e w' => e = .returned (.func (.func 119) #[] #[.pointer (some ⟨w.heap.size, 0, none⟩)]) ∧ w.alloc (.cells #[v] 52) = w' := by
  obtain ⟨a, n, c, rfl⟩ := hv
  have hmf : ∀ (fn : Fn) (first cap : Array Value) (w : World), (Instr.makeFunc fn first cap).run Try.prog w = .ok (.func fn first cap) w := fun _ _ _ _ => rfl
  go_enter Try.func112, Try.ntmps112
  go_wp2
  go_ret
  exact ⟨rfl, rfl⟩

theorem y_n {e : Ending} {A B : Prop} (h : (e = .returned (.bool true) ∧ A) ∨ (e = .returned (.bool false) ∧ B)) : ∃ b, e = .returned (.bool b) ∧ (b = true → A) ∧ (b = false → B) := by
  rcases h with ⟨h1, h2⟩ | ⟨h1, h2⟩
  · exact ⟨true, h1, fun _ => h2, fun h => (by cases h)⟩
  · exact ⟨false, h1, (fun h => (by cases h)), fun _ => h2⟩

def encInt (x : Int) : Array Value := #[.int .i64 x]

set_option maxRecDepth 100000 in
set_option maxHeartbeats 2000000 in
theorem vals1_in (nn : Nat) (hnn : 1 ≤ nn) (li Bs : Nat) (v : Value) (ob : Option Nat) (l : List Int) (J Jx : List Int → World → Prop) (W : World) (hBs : Blk W Bs #[v] 52) (hrow : Row W v ob 3 1 l.length (valsI l)) (h0 : J [] W)
    (Kp : World → World → Prop) (hK : ∀ A B g, Kp A B → ob = some g → B.heap[g]? = A.heap[g]?)
    (hY : ∀ pre x W1, J pre W1 → l[pre.length]? = some x → pre.length < l.length → YieldAt Fence.wide (nn - 1) Try.prog li (encInt x) W1 fun e W' =>
      (e = .returned (.bool true) ∧ J (pre ++ [x]) W' ∧ Kp W1 W') ∨ (e = .returned (.bool false) ∧ Jx (pre ++ [x]) W')) :
    CallsIn Fence.wide nn Try.prog 119 #[.func (.yield li) #[] #[], .pointer (some ⟨Bs, 0, none⟩)] W fun e W' => (∃ v, e = .returned v) ∧
      ((∃ ys, ys = l ∧ J ys W') ∨ (∃ pre, Jx pre W')) := by
  obtain ⟨a, cap, rfl, m1, m2, ha⟩ := hrow.shape
  unfold maxLen at m2
  have c0 : W.cell? ⟨Bs, 0, none⟩ = some (.slice a l.length cap) := cell_at hBs 0
  have hlt0 := hBs.lt
  have HROW := Lib.hid hrow
  have HA := Lib.hid ha
  have HK := Lib.hid hK
  have HY := Lib.hid hY
  clear hrow ha hBs hK hY
  refine callsIn_of_wp Try.func119 rfl trivial ?_ rfl
  simp only [Try.ntmps119, List.size_toArray, List.length_cons, List.length_nil, Nat.reduceAdd, Nat.reduceSub, Array.replicate_succ, Array.replicate_zero, List.push_toArray, List.append_toArray, List.nil_append, List.cons_append]
  gi_wp2
  gi_loopw [7] (fun i wr => ∃ k : Nat, k ≤ l.length ∧ i = .int .i64 k ∧ J (l.take k) wr ∧ ∀ g, ob = some g → wr.heap[g]? = W.heap[g]?) (fun i _ => l.length - (intOf i).toNat)
  case atStart => exact ⟨0, Nat.zero_le _, rfl, h0, fun _ _ => rfl⟩
  case round =>
    obtain ⟨k, hk, rfl, hJ, hb⟩ := hrel
    by_cases hlt : k < l.length
    · obtain ⟨x, hx⟩ : ∃ x, l[k]? = some x := ⟨_, List.getElem?_eq_getElem hlt⟩
      have hrk : Row wr (.slice a l.length cap) ob 3 1 l.length (valsI l) := HROW.out.congr hb
      obtain ⟨g, hg, hcell, _⟩ := hrk.cell k (by omega)
      rw [valsI, List.getElem?_map, hx] at hcell
      have hcell' : wr.cell? ⟨g, k, none⟩ = some (.int .i64 x) := hcell
      have ha := HA.out
      rw [hg] at ha
      obtain rfl : a = some ⟨g, 0, none⟩ := ha
      have hglt : g < wr.heap.size := by rw [hg] at hrk; exact hrk.lt
      have htl : (l.take k).length = k := by rw [List.length_take]; omega
      have hY1 := HY.out (l.take k) x wr hJ (by rw [htl]; exact hx) (by rw [htl]; exact hlt)
      have htk : l.take k ++ [x] = l.take (k + 1) := by rw [List.take_add_one, hx]; rfl
      rw [htk] at hY1
      obtain ⟨fn, tmps, assign, body, hy, hR⟩ := hY1
      have hy' : (Instr.yield li #[.int .i64 x]).run Try.prog wr = .ok (.round li fn tmps assign body) wr := hy
      have HB := Lib.hid hb
      have HG := Lib.hid hg
      clear hrk hcell hy htk hJ hb hg hx htl
      gi_wp2_with (first
        | (refine hR.mono ?_; rintro e W3 hE3; obtain ⟨yb, rfl, hy1, hy2⟩ := y_n hE3; have HY1 := Lib.hid hy1; have HY2 := Lib.hid hy2; clear hE3 hy1 hy2)
        | fail)
      · rename_i hyb
        have hyb2 : yb = false := by simpa using hyb
        exact bodyPost_ret (results_none rfl _ _ _) rfl ⟨⟨_, rfl⟩, .inr ⟨_, HY2.out hyb2⟩⟩
      · rename_i hyb
        have hyb2 : yb = true := by simpa using hyb
        obtain ⟨j1, j2⟩ := HY1.out hyb2
        go_roundw
        case rel => exact ⟨k + 1, by omega, by go_num, j1, fun g' hg' => (HK.out _ _ g' j2 hg').trans (HB.out g' hg')⟩
        case measure => simp [intOf]; omega
    · obtain rfl : k = l.length := by omega
      rw [List.take_length] at hJ
      clear hb
      gi_wp2
      go_end0
      exact ⟨⟨_, rfl⟩, .inl ⟨l, rfl, hJ⟩⟩

theorem vals1_seq (nn : Nat) (hnn : 1 ≤ nn) {w : World} (Bs : Nat) (v : Value) (ob : Option Nat) (l : List Int) (hBs : Blk w Bs #[v] 52) (hrow : Row w v ob 3 1 l.length (valsI l))
    {Kp : World → World → Prop} (hK : ∀ A B g, Kp A B → ob = some g → B.heap[g]? = A.heap[g]?) :
    SeqE nn Try.prog 119 #[.pointer (some ⟨Bs, 0, none⟩)] encInt (fun pre x _ => l[pre.length]? = some x) Kp (fun ys => ys = l) l.length w := by
  intro li J Jx W hW _ hY h0
  exact vals1_in nn hnn li Bs v ob l J Jx W (hBs.step hW) (hrow.congr fun g hg => hW.block g (by subst hg; exact hrow.lt)) h0 Kp hK hY
end Go.Proofs.Ytninhjeiialbjaa
