/-
  All of an air, told one by one.
-/
import Derived.Test.YtokhdpokcfkfpaaAik
import Derived.Test.YtokhdpokcfkfpaaRg
import Derived.LoopIn
namespace Go.Proofs.Ytokhdpokcfkfpaa
open Go.RowKit
set_option linter.unusedSimpArgs false
set_option linter.unusedVariables false

attribute [local go_sem] Oper.semAt_some

theorem y_n {e : Ending} {A B : Prop} (h : (e = .returned (.bool true) ∧ A) ∨ (e = .returned (.bool false) ∧ B)) : ∃ b, e = .returned (.bool b) ∧ (b = true → A) ∧ (b = false → B) := by
  rcases h with ⟨h1, h2⟩ | ⟨h1, h2⟩
  · exact ⟨true, h1, fun _ => h2, fun h => (by cases h)⟩
  · exact ⟨false, h1, (fun h => (by cases h)), fun _ => h2⟩

def encM (x : Nat × MsE) : Array Value := let m := x.2; #[.int .i64 x.1, .agg #[.int .i8 m.kd, .int .i64 m.f, .int .i64 m.t, .int .i64 m.te, .int .i64 m.ix, .int .i64 m.la, .int .i64 m.co, .bool m.ok, .slice none 0 0, .int .i64 m.si, .int .i64 m.st, .int .u8 m.sc, .slice none 0 0, .slice none 0 0]]
def prs (L : List MsE) : List (Nat × MsE) := (List.range L.length).zip L
theorem prs_len (L : List MsE) : (prs L).length = L.length := by simp [prs]
theorem prs_at (L : List MsE) (k : Nat) (m : MsE) (h : L[k]? = some m) : (prs L)[k]? = some (k, m) := by
  have hl := (List.getElem?_eq_some_iff.1 h).1
  simp only [prs, List.getElem?_zip_eq_some]
  exact ⟨by simp [hl], h⟩

set_option maxRecDepth 100000 in
set_option maxHeartbeats 8000000 in
theorem allM1_in (nn : Nat) (hnn : 2 ≤ nn) (li Bs : Nat) (v : Value) (ob : Option Nat) (L : List MsE) (J Jx : List (Nat × MsE) → World → Prop) (W : World) (hBs : Blk W Bs #[v] 28) (hrow : Row W v ob 39 14 L.length (msL L)) (h0 : J [] W)
    (hJB : ∀ s A B, J s A → Below A.heap.size A B → J s B)
    (Kp : World → World → Prop) (hK : ∀ A B g, Kp A B → ob = some g → B.heap[g]? = A.heap[g]?)
    (hY : ∀ pre x W1, J pre W1 → (prs L)[pre.length]? = some x → pre.length < L.length → YieldAt Fence.wide (nn - 1) Try.prog li (encM x) W1 fun e W' =>
      (e = .returned (.bool true) ∧ J (pre ++ [x]) W' ∧ Kp W1 W') ∨ (e = .returned (.bool false) ∧ Jx (pre ++ [x]) W')) :
    CallsIn Fence.wide nn Try.prog 43 #[.func (.yield li) #[] #[], .pointer (some ⟨Bs, 0, none⟩)] W fun e W' => (∃ v, e = .returned v) ∧
      ((∃ ys, ys = prs L ∧ J ys W') ∨ (∃ pre, Jx pre W')) := by
  obtain ⟨a, cap, rfl, m1, m2, ha⟩ := hrow.shape
  unfold maxLen at m2
  have c0 : W.cell? ⟨Bs, 0, none⟩ = some (.slice a L.length cap) := cell_at hBs 0
  have hlt0 := hBs.lt
  have HROW := Lib.hid hrow
  have HA := Lib.hid ha
  have HK := Lib.hid hK
  have HY := Lib.hid hY
  have HJB := Lib.hid hJB
  obtain ⟨n, hnn2⟩ : ∃ n, n = L.length := ⟨_, rfl⟩
  have HN := Lib.hid hnn2
  rw [← hnn2] at c0 m1
  clear hrow ha hBs hK hY hJB hnn2
  refine callsIn_of_wp Try.func43 rfl trivial ?_ rfl
  simp only [Try.ntmps43, List.size_toArray, List.length_cons, List.length_nil, Nat.reduceAdd, Nat.reduceSub, Array.replicate_succ, Array.replicate_zero, List.push_toArray, List.append_toArray, List.nil_append, List.cons_append]
  gi_wp2
  gi_loopw [7] (fun i wr => ∃ k : Nat, k ≤ n ∧ i = .int .i64 k ∧ J ((prs L).take k) wr ∧ ∀ g, ob = some g → wr.heap[g]? = W.heap[g]?) (fun i _ => n - (intOf i).toNat)
  case atStart => exact ⟨0, Nat.zero_le _, rfl, h0, fun _ _ => rfl⟩
  case round =>
    obtain ⟨k, hk, rfl, hJ, hb⟩ := hrel
    have HJ := Lib.hid hJ
    have HB := Lib.hid hb
    clear hJ hb
    by_cases hlt : k < n
    · have hrk : Hid (Row wr (.slice a L.length cap) ob 39 14 L.length (msL L)) := Lib.hid (HROW.out.congr HB.out)
      obtain ⟨r, er, hq1, hq2⟩ := hrk.out.cell (k * 14) (by rw [← HN.out]; omega)
      clear hq1 hq2
      obtain rfl : a = some ⟨r, 0, none⟩ := by rw [HA.out, er]; rfl
      obtain ⟨m, hm⟩ : ∃ m, L[k]? = some m := ⟨L[k]'(by rw [← HN.out]; exact hlt), by simp [← HN.out, hlt]⟩
      have HM := Lib.hid hm
      have ec : ∀ j, j < 14 → wr.cell? ⟨r, k * 14 + j, none⟩ = m.cells[j]? := fun j hj => by
        obtain ⟨r', er', q, _⟩ := hrk.out.cell (k * 14 + j) (by rw [← HN.out]; omega)
        rw [er] at er'
        obtain rfl := Option.some.inj er'
        exact q.trans (msL_at L k j m hm hj)
      have HRL : Hid (∀ g, ob = some g → g < wr.heap.size) := Lib.hid (fun g hg => by have hh := hrk.out; rw [hg] at hh; exact hh.lt)
      have x0 : wr.cell? ⟨r, k * 14, none⟩ = some (.int .i8 m.kd) := ec 0 (by omega)
      have x1 : wr.cell? ⟨r, k * 14 + 1, none⟩ = some (.int .i64 m.f) := ec 1 (by omega)
      have x2 : wr.cell? ⟨r, k * 14 + 2, none⟩ = some (.int .i64 m.t) := ec 2 (by omega)
      have x3 : wr.cell? ⟨r, k * 14 + 3, none⟩ = some (.int .i64 m.te) := ec 3 (by omega)
      have x4 : wr.cell? ⟨r, k * 14 + 4, none⟩ = some (.int .i64 m.ix) := ec 4 (by omega)
      have x5 : wr.cell? ⟨r, k * 14 + 5, none⟩ = some (.int .i64 m.la) := ec 5 (by omega)
      have x6 : wr.cell? ⟨r, k * 14 + 6, none⟩ = some (.int .i64 m.co) := ec 6 (by omega)
      have x7 : wr.cell? ⟨r, k * 14 + 7, none⟩ = some (.bool m.ok) := ec 7 (by omega)
      have x8 : wr.cell? ⟨r, k * 14 + 8, none⟩ = some (.slice none 0 0) := ec 8 (by omega)
      have x9 : wr.cell? ⟨r, k * 14 + 9, none⟩ = some (.int .i64 m.si) := ec 9 (by omega)
      have x10 : wr.cell? ⟨r, k * 14 + 10, none⟩ = some (.int .i64 m.st) := ec 10 (by omega)
      have x11 : wr.cell? ⟨r, k * 14 + 11, none⟩ = some (.int .u8 m.sc) := ec 11 (by omega)
      have x12 : wr.cell? ⟨r, k * 14 + 12, none⟩ = some (.slice none 0 0) := ec 12 (by omega)
      have x13 : wr.cell? ⟨r, k * 14 + 13, none⟩ = some (.slice none 0 0) := ec 13 (by omega)
      clear ec hm er hrk
      have hw2 : (k < n) = True := eq_true hlt
      gi_wp2_with (first
        | (refine ⟨trivial, fun _ => (by omega), ?_⟩; gi_at_call 35; refine (callsIn_wide.2 (twin_any m _)).mono ?_; rintro e W2 ⟨rfl, hB2⟩; have hBB : Below wr.heap.size wr W2 := ((Below.refl _ _).alloc (Nat.le_refl _) _).trans (hB2.mono (by simp)); have HBB := Lib.hid hBB; have htl : ((prs L).take k).length = k := (by rw [List.length_take, prs_len]; have := HN.out; omega); have hY1 := HY.out ((prs L).take k) (k, m) W2 (HJB.out _ _ _ HJ.out hBB) (by rw [htl]; exact prs_at L k m HM.out) (by rw [htl, ← HN.out]; exact hlt); rw [show (prs L).take k ++ [(k, m)] = (prs L).take (k + 1) from (by rw [List.take_add_one, prs_at L k m HM.out]; rfl)] at hY1; obtain ⟨fn, tmps, assign, body, hy, hR⟩ := hY1; have hy' : (Instr.yield li #[.int .i64 (k : Int), .agg #[.int .i8 m.kd, .int .i64 m.f, .int .i64 m.t, .int .i64 m.te, .int .i64 m.ix, .int .i64 m.la, .int .i64 m.co, .bool m.ok, .slice none 0 0, .int .i64 m.si, .int .i64 m.st, .int .u8 m.sc, .slice none 0 0, .slice none 0 0]]).run Try.prog W2 = .ok (.round li fn tmps assign body) W2 := hy; clear hy htl hB2 hBB)
        | (refine ⟨fun _ => (by omega), hR.mono ?_⟩; rintro e W3 hE3; obtain ⟨yb, rfl, hy1, hy2⟩ := y_n hE3; have HY1 := Lib.hid hy1; have HY2 := Lib.hid hy2; clear hE3 hy1 hy2)
        | fail)
      · rename_i hyb
        have hyb2 : yb = false := by simpa using hyb
        exact bodyPost_ret (results_none rfl _ _ _) rfl ⟨⟨_, rfl⟩, .inr ⟨_, HY2.out hyb2⟩⟩
      · rename_i hyb
        have hyb2 : yb = true := by simpa using hyb
        obtain ⟨j1, j2⟩ := HY1.out hyb2
        go_roundw
        case rel => exact ⟨k + 1, by omega, by go_num, j1, fun g' hg' => (HK.out _ _ g' j2 hg').trans ((HBB.out.block g' (HRL.out g' hg')).trans (HB.out g' hg'))⟩
        case measure => first | (simp [intOf]; done) | (simp [intOf]; omega)
    · obtain rfl : k = n := by omega
      have hJ := HJ.out
      rw [HN.out, ← prs_len, List.take_length] at hJ
      have HJ2 := Lib.hid hJ
      clear hJ
      gi_wp2
      go_end0
      exact ⟨⟨_, rfl⟩, .inl ⟨prs L, rfl, HJ2.out⟩⟩

theorem allM1_seq (nn : Nat) (hnn : 2 ≤ nn) {w : World} (Bs : Nat) (v : Value) (ob : Option Nat) (L : List MsE) (hBs : Blk w Bs #[v] 28) (hrow : Row w v ob 39 14 L.length (msL L))
    {Kp : World → World → Prop} (hK : ∀ A B g, Kp A B → ob = some g → B.heap[g]? = A.heap[g]?) :
    SeqE nn Try.prog 43 #[.pointer (some ⟨Bs, 0, none⟩)] encM (fun pre x _ => (prs L)[pre.length]? = some x) Kp (fun ys => ys = prs L) L.length w := by
  intro li J Jx W hW hJB hY h0
  exact allM1_in nn hnn li Bs v ob L J Jx W (hBs.step hW) (hrow.congr fun g hg => hW.block g (by subst hg; exact hrow.lt)) h0 hJB Kp hK hY
end Go.Proofs.Ytokhdpokcfkfpaa
