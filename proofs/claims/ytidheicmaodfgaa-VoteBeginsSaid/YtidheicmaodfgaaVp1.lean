/-
  Package vote: whom a node asks. The asks as rows.
-/
import Derived.Test.YtidheicmaodfgaaVo
import Derived.Test.YtidheicmaodfgaaLib2
import Derived.Test.YtidheicmaodfgaaVf
namespace Go.Proofs.Ytidheicmaodfgaa
open Go.RowKit

def msgL (E : Nat → MsgE) (n : Nat) : List Value := (List.range n).flatMap fun k => (E k).cells
theorem msgL_succ (E : Nat → MsgE) (n : Nat) : msgL E (n + 1) = msgL E n ++ (E n).cells := by simp [msgL, List.range_succ, List.flatMap_append]
theorem msgL_len (E : Nat → MsgE) : ∀ n : Nat, (msgL E n).length = n * 14
  | 0 => by simp [msgL]
  | n + 1 => by rw [msgL_succ, List.length_append, msgL_len E n]; simp [MsgE.cells]; omega
theorem msgL_congr {E E' : Nat → MsgE} : ∀ {n : Nat}, (∀ k, k < n → E k = E' k) → msgL E n = msgL E' n
  | 0, _ => rfl
  | n + 1, h => by rw [msgL_succ, msgL_succ, msgL_congr (fun k hk => h k (by omega)), h n (by omega)]
theorem msgL_at (E : Nat → MsgE) : ∀ (n k j : Nat), k < n → j < 14 → (msgL E n)[k * 14 + j]? = (E k).cells[j]?
  | 0, _, _, h, _ => by omega
  | n + 1, k, j, h, hj => by
    have hl := msgL_len E n
    rw [msgL_succ]
    by_cases hk : k < n
    · rw [List.getElem?_append_left (by omega)]
      exact msgL_at E n k j hk hj
    · obtain rfl : k = n := by omega
      rw [List.getElem?_append_right (by omega), hl]
      congr 1
      omega
theorem msg_row {w : World} {v : Value} {ob : Option Nat} {E : Nat → MsgE} {n : Nat} (h : Row w v ob 40 14 n (msgL E n)) (hE : ∀ k, k < n → (E k).ok) :
    ∃ a cap, v = .slice a n cap ∧ MsgIn w a n cap (ob.getD 0) 0 E := by
  obtain ⟨a, cap, rfl, h1, h2, h3⟩ := h.shape
  refine ⟨a, cap, rfl, h1, h2, fun hk => ?_, fun k hk => ?_, hE⟩
  · obtain ⟨g, hg, _⟩ := h.cell 0 (by omega)
    subst hg
    exact ⟨h3, h.lt⟩
  · have hh : ∀ j, j < 14 → w.cell? ⟨ob.getD 0, 0 + k * 14 + j, none⟩ = (E k).cells[j]? := fun j hj => by
      obtain ⟨g, hg, hc, _⟩ := h.cell (k * 14 + j) (by omega)
      subst hg
      rw [Option.getD_some, Nat.zero_add, hc, msgL_at E n k j hk hj]
    exact ⟨hh 0 (by omega), hh 1 (by omega), hh 2 (by omega), hh 3 (by omega), hh 4 (by omega), hh 5 (by omega), hh 6 (by omega), hh 7 (by omega), hh 8 (by omega), hh 9 (by omega), hh 10 (by omega), hh 11 (by omega), hh 12 (by omega), hh 13 (by omega)⟩

def askM (self t idx lt dz : Int) : MsgE := ⟨1, self, dz, t, idx, lt, 0, false, none, 0, 0, 0, 0, 0, none, 0, 0, none, 0, 0⟩
/-- is a node asked? -/
def incB (s : Nat) (self : Int) (i : Nat) : Bool := decide ((i : Int) ≠ self) && s.testBit (i - 1)
def askN (s : Nat) (self : Int) : Nat → Nat
  | 0 => 0
  | k + 1 => if incB s self (k + 1) then askN s self k + 1 else askN s self k
def askE (s : Nat) (self : Int) : Nat → Nat → Int
  | 0, _ => 0
  | k + 1, j => if incB s self (k + 1) && j == askN s self k then ((k + 1 : Nat) : Int) else askE s self k j
theorem askN_le (s : Nat) (self : Int) : ∀ k, askN s self k ≤ k
  | 0 => Nat.le_refl _
  | k + 1 => by unfold askN; have := askN_le s self k; split <;> omega
def asksL (s : Nat) (self t idx lt : Int) (k : Nat) : List Value := msgL (fun j => askM self t idx lt (askE s self k j)) (askN s self k)
theorem asks_yes {s : Nat} {self : Int} {k : Nat} (t idx lt : Int) (h : incB s self (k + 1) = true) : askN s self (k + 1) = askN s self k + 1 ∧ asksL s self t idx lt (k + 1) = asksL s self t idx lt k ++ (askM self t idx lt ((k + 1 : Nat) : Int)).cells := by
  have e : askN s self (k + 1) = askN s self k + 1 := by show (if incB s self (k + 1) then _ else _) = _; rw [if_pos h]
  refine ⟨e, ?_⟩
  unfold asksL
  rw [e, msgL_succ]
  congr 1
  · refine msgL_congr fun j hj => ?_
    show askM self t idx lt (if incB s self (k + 1) && j == askN s self k then _ else _) = _
    rw [if_neg (by simp; omega)]
  · show (askM self t idx lt (if incB s self (k + 1) && askN s self k == askN s self k then _ else _)).cells = _
    rw [if_pos (by rw [h]; simp)]
theorem asks_no {s : Nat} {self : Int} {k : Nat} (t idx lt : Int) (h : incB s self (k + 1) = false) : askN s self (k + 1) = askN s self k ∧ asksL s self t idx lt (k + 1) = asksL s self t idx lt k := by
  have e : askN s self (k + 1) = askN s self k := by show (if incB s self (k + 1) then _ else _) = _; rw [if_neg (by rw [h]; simp)]
  refine ⟨e, ?_⟩
  unfold asksL
  rw [e]
  refine msgL_congr fun j hj => ?_
  show askM self t idx lt (if incB s self (k + 1) && j == askN s self k then _ else _) = _
  rw [if_neg (by rw [h]; simp)]

theorem below_drewN {B : Nat} {w X : World} (h : Below B w X) (n : Nat) : Below B w (X.drewN n) := ⟨h.os, h.tape, h.output, h.size, h.block⟩
theorem Holds.grown {X X' : World} {n : Nat} {c : Array Value} {ob : Option Nat} (h : Holds X n c) (hg : X.grownBy X' ob) (hn : ob ≠ some n) : Holds X' n c := by
  have hb := hg.block n h.2.2 (fun e => hn e.symm)
  exact ⟨fun i => (World.cell?_of_block (a := ⟨n, i, none⟩) hb).trans (h.1 i), fun i => by
    have := h.2.1 i
    unfold World.frozen? at this ⊢
    rw [hb]
    exact this, Nat.lt_of_lt_of_le h.2.2 hg.size⟩

set_option maxHeartbeats 400000 in
theorem has_any (s i : Nat) (w : World) (hs : s < 256) (h1 : 1 ≤ i) (h2 : i ≤ 7) : Calls Try.prog 30 #[.int .u8 s, .int .i64 i] w fun e w' => e = .returned (.bool (s.testBit (i - 1))) ∧ w = w' := by
  have e0 : ((s / 2 ^ (i - 1) : Nat) : Int) = (s : Int) / 2 ^ (i - 1) := by simp
  have e1 := and_u8 (s / 2 ^ (i - 1)) 1 (Nat.lt_of_le_of_lt (Nat.div_le_self _ _) hs) (by omega)
  have e2 : s.testBit (i - 1) = (((s / 2 ^ (i - 1) &&& 1 : Nat) : Int) == 1) := by
    rw [Nat.testBit_eq_decide_div_mod_eq, Nat.and_one_is_mod, Bool.eq_iff_iff]
    simp
    omega
  rw [e2, ← e1, e0]
  clear e0 e1 e2
  go_enter Try.func30, Try.ntmps30
  go_wp2
  go_ret
  exact ⟨rfl, rfl⟩
set_option maxHeartbeats 400000 in
theorem rhas_out (s i : Int) (w : World) (h : nodeB i = false) : Calls Try.prog 33 #[.int .u8 s, .int .i64 i] w fun e w' => e = .returned (.bool false) ∧ w = w' := by
  have R := Lib.hid (fun w => rnode_any i w)
  rw [h] at R
  clear h
  go_enter Try.func33, Try.ntmps33
  go_wp2_with (go_at_call 38; refine (R.out _).mono ?_; rintro e w' ⟨rfl, rfl⟩)
  go_ret
  exact ⟨rfl, rfl⟩
set_option maxRecDepth 100000 in
set_option maxHeartbeats 2000000 in
theorem lastx_any (base term : Int) (a : Option Addr) (len cap b o : Nat) (E : Nat → Ent) (w : World) (hs : EntsIn w a len cap b o E) (hk : rowsB base term len E = true) :
    Calls Try.prog 31 #[.agg #[.int .i64 base, .int .i64 term, .slice a len cap]] w fun e w' => e = .returned (.tuple #[.int .i64 (base + len), .int .i64 (lastT term len E)]) ∧ Below w.heap.size w w' := by
  obtain ⟨b0, b1, h1, t0⟩ := rowsB_head hk
  have HS := Lib.hid hs
  have C1 : Hid (∀ W, EntsIn W a len cap b o E → Calls Try.prog 28 #[.agg #[.int .i64 base, .int .i64 term, .slice a len cap]] W fun e w' => e = .returned (.int .i64 0) ∧ Below W.heap.size W w') := Lib.hid (fun W h => by have := check_any base term a len cap b o E W h; rwa [rowsE_ok hk] at this)
  have C2 : Hid (∀ W, EntsIn W a len cap b o E → Calls Try.prog 45 #[.agg #[.int .i64 base, .int .i64 term, .slice a len cap]] W fun e w' => e = .returned (.tuple #[.int .i64 (base + len), .int .i64 (lastT term len E)]) ∧ Below W.heap.size W w') := Lib.hid (fun W h => last_any base term a len cap b o E W h b0 (by omega) h1)
  have HQ := Lib.hid (Box.mk0 w base term (.slice a len cap))
  have HB0 : Hid (Below w.heap.size w (w.alloc (.cells #[.int .i64 base, .int .i64 term, .slice a len cap] 26))) := Lib.hid ((Below.refl _ _).alloc (Nat.le_refl _) _)
  clear hs hk
  obtain ⟨N, hN⟩ : ∃ N, N = base + (len : Int) := ⟨_, rfl⟩
  obtain ⟨L, hL⟩ : ∃ L, L = lastT term len E := ⟨_, rfl⟩
  rw [← hN, ← hL] at C2 ⊢
  clear hN hL
  go_enter Try.func31, Try.ntmps31
  go_wp2_with (first
    | (go_at_call 28; refine Calls.mono (C1.out _ ?_) ?_; exact HS.out.below HB0.out; rintro e W1 ⟨rfl, hW1⟩; have HQ1 := Lib.hid (HQ.out.step hW1); have HB1 := Lib.hid (HB0.out.trans (hW1.mono HB0.out.size)); obtain ⟨⟨f0, f1, f2⟩, f3, _⟩ := id HQ1.out)
    | (go_at_call 45; refine Calls.mono (C2.out _ ?_) ?_; exact HS.out.below HB1.out; rintro e W2 ⟨rfl, hW2⟩))
  go_ret2
  exact ⟨rfl, HB1.out.trans (hW2.mono HB1.out.size)⟩
set_option maxRecDepth 100000 in
set_option maxHeartbeats 2000000 in
theorem begin1_any (S H I T : Nat) (self t idx lt dz : Int) (w : World) (c0 : w.cell? ⟨S, 0, none⟩ = some (.int .i64 self)) (c1 : w.cell? ⟨H, 0, none⟩ = some (.int .i64 t)) (c2 : w.cell? ⟨I, 0, none⟩ = some (.int .i64 idx)) (c3 : w.cell? ⟨T, 0, none⟩ = some (.int .i64 lt))
    (h0 : S < w.heap.size) (h1 : H < w.heap.size) (h2 : I < w.heap.size) (h3 : T < w.heap.size) :
    Calls Try.prog 32 #[.int .i64 dz, .pointer (some ⟨S, 0, none⟩), .pointer (some ⟨H, 0, none⟩), .pointer (some ⟨I, 0, none⟩), .pointer (some ⟨T, 0, none⟩)] w fun e w' => e = .returned (.agg #[.int .i8 1, .int .i64 self, .int .i64 dz, .int .i64 t, .int .i64 idx, .int .i64 lt, .int .i64 0, .bool false, .slice none 0 0, .int .i64 0, .int .i64 0, .int .u8 0, .slice none 0 0, .slice none 0 0]) ∧ Below w.heap.size w w' := by
  have n0 : (S = w.heap.size) = False := eq_false (by omega)
  have n1 : (H = w.heap.size) = False := eq_false (by omega)
  have n2 : (I = w.heap.size) = False := eq_false (by omega)
  have n3 : (T = w.heap.size) = False := eq_false (by omega)
  go_enter Try.func32, Try.ntmps32
  go_wp2_with fail
  refine bodyPost_ret (v := .agg #[.int .i8 1, .int .i64 self, .int .i64 dz, .int .i64 t, .int .i64 idx, .int .i64 lt, .int .i64 0, .bool false, .slice none 0 0, .int .i64 0, .int .i64 0, .int .u8 0, .slice none 0 0, .slice none 0 0]) (by simp [results, Try.results32, go_sem]) rfl ⟨rfl, ?_⟩
  exact (Below.refl _ _).alloc (Nat.le_refl _) _
end Go.Proofs.Ytidheicmaodfgaa
