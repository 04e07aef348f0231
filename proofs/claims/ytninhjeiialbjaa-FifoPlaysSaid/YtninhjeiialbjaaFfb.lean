/-
  Two packets, the same or not: the program's Same and the document's.
-/
import Derived.Laws.StructEq
import Derived.Deep.RegionLaw
import Derived.Test.YtninhjeiialbjaaLib2
import Derived.Test.YtninhjeiialbjaaFf9
namespace Go.Proofs.Ytninhjeiialbjaa
open Go.RowKit
set_option linter.unusedSimpArgs false
set_option linter.unusedVariables false

theorem markOf_any (num t c : Int) (la : Option Addr) (ln lc : Nat) (w : World) :
    Calls Try.prog 80 #[.agg #[.int .i64 num, .int .i64 t, .int .i64 c, .slice la ln lc]] w fun e w' => e = .returned (.agg #[.int .i64 num, .int .i64 t, .int .i64 c]) ∧ Below w.heap.size w w' := by
  go_enter Try.func80, Try.ntmps80
  go_wp2_with fail
  exact bodyPost_ret (v := .agg #[.int .i64 num, .int .i64 t, .int .i64 c]) (by simp [results, Try.results80, go_sem]) rfl ⟨rfl, ((Below.refl _ _).alloc (Nat.le_refl _) _).alloc (by simp) _⟩

def markB (n t c n' t' c' : Int) : Bool := n == n' && (t == t' && c == c')
theorem mark_eql (n t c n' t' c' : Int) (w : World) : (binOp .eql 122 (.agg #[.int .i64 n, .int .i64 t, .int .i64 c]) (.agg #[.int .i64 n', .int .i64 t', .int .i64 c'])).run Try.prog w = .ok (.bool (markB n t c n' t' c')) w := by
  have hf : Try.prog.fieldsOf 122 = #[⟨"number", 3, 0, false, "", "weir/fifo", 0⟩, ⟨"tenant", 3, 1, false, "", "weir/fifo", 8⟩, ⟨"class", 3, 2, false, "", "weir/fifo", 16⟩] := by kernel_rfl
  rw [run_eql_struct, show (10000 : Nat) = 9998 + 1 + 1 from rfl, run_equalIn_struct w _ _ _ _ (by kernel_rfl) (by kernel_rfl), hf]
  have e1 : ∀ a b : Int, (Op.equalIn (9998 + 1) 3 (.int .i64 a) (.int .i64 b)).run Try.prog w = .ok (a == b) w := fun a b => run_equalIn_int w 9998 _ .i64 .i64 a b (by kernel_rfl)
  unfold markB
  cases h1 : n == n' <;> cases h2 : t == t' <;> cases h3 : c == c' <;> simp [Op.eqFields, part, e1, h1, h2, h3, go_sem]

/-- are two packets the same? -/
def sameP (p q : PkE) : Bool := markB p.num p.t p.c q.num q.t q.c && (p.n == q.n && eqB p.X q.X p.n)

theorem Holds.step {A B : World} {n : Nat} {c : Array Value} (h : Holds A n c) (hB : Below A.heap.size A B) : Holds B n c :=
  ⟨fun j => (hB.cell (p := ⟨n, j, none⟩) h.2.2).trans (h.1 j), fun j => (hB.frozen (p := ⟨n, j, none⟩) h.2.2).trans (h.2.1 j), by have := hB.size; have := h.2.2; omega⟩
/-- two blocks of the call's own -/
def F2 (w : World) (n1 n2 : Nat) (c0 c1 : Array Value) (X : World) : Prop := Holds X n1 c0 ∧ Holds X n2 c1 ∧ Below w.heap.size w X
theorem F2.step {w A B : World} {n1 n2 : Nat} {c0 c1 : Array Value} (h : F2 w n1 n2 c0 c1 A) (hB : Below A.heap.size A B) : F2 w n1 n2 c0 c1 B := ⟨Holds.step h.1 hB, Holds.step h.2.1 hB, h.2.2.trans (hB.mono h.2.2.size)⟩

set_option maxRecDepth 100000 in
set_option maxHeartbeats 8000000 in
theorem fsame_any (p q : PkE) (w : World) (hp : ByIn w p.a p.n p.ca p.b p.o p.X) (hq : ByIn w q.a q.n q.ca q.b q.o q.X) :
    Calls Try.prog 45 #[.agg #[.int .i64 p.num, .int .i64 p.t, .int .i64 p.c, .slice p.a p.n p.ca], .agg #[.int .i64 q.num, .int .i64 q.t, .int .i64 q.c, .slice q.a q.n q.ca]] w fun e w' => e = .returned (.bool (sameP p q)) ∧ Below w.heap.size w w' := by
  obtain ⟨m, hm⟩ : ∃ m, m = markB p.num p.t p.c q.num q.t q.c := ⟨_, rfl⟩
  unfold sameP
  rw [← hm]
  obtain ⟨num, t, c, a, n, ca, b, o, X⟩ := p
  obtain ⟨num', t', c', a', n', ca', b', o', X'⟩ := q
  simp only at *
  have me : ∀ W, (binOp .eql 122 (.agg #[.int .i64 num, .int .i64 t, .int .i64 c]) (.agg #[.int .i64 num', .int .i64 t', .int .i64 c'])).run Try.prog W = .ok (.bool m) W := fun W => by rw [hm]; exact mark_eql _ _ _ _ _ _ W
  obtain ⟨N, hN⟩ : ∃ N, N = w.heap.size := ⟨_, rfl⟩
  obtain ⟨W1, hW1⟩ : ∃ W1, W1 = (w.alloc (.cells #[.int .i64 num, .int .i64 t, .int .i64 c, .slice a n ca] 57)).alloc (.cells #[.int .i64 num', .int .i64 t', .int .i64 c', .slice a' n' ca'] 57) := ⟨_, rfl⟩
  have hB1 : Below w.heap.size w W1 := by rw [hW1]; exact ((Below.refl _ _).alloc (Nat.le_refl _) _).alloc (by simp) _
  have hH := tw2 (X := W1) (n := N) (by rw [hW1]; exact Below.refl _ _) hN.symm
  have HQ0 : Hid (F2 w N (N + 1) _ _ W1.drew) := Lib.hid (F2.step ⟨hH.1, hH.2, hB1⟩ ((Below.refl _ _).drew : Below W1.heap.size W1 W1.drew))
  have HP := Lib.hid hp
  have HR := Lib.hid hq
  clear hB1 hH hp hq
  go_enter Try.func45, Try.ntmps45
  go_upto_region 1 with fail
  rw [← hN, ← hW1]
  clear hN hW1 hm
  refine wp_region_held_drew (S := fun X => X.cell? ⟨N, 0, none⟩ = some (.int .i64 num) ∧ X.cell? ⟨N, 1, none⟩ = some (.int .i64 t) ∧ X.cell? ⟨N, 2, none⟩ = some (.int .i64 c) ∧ X.cell? ⟨N, 3, none⟩ = some (.slice a n ca) ∧ X.cell? ⟨N + 1, 0, none⟩ = some (.int .i64 num') ∧ X.cell? ⟨N + 1, 1, none⟩ = some (.int .i64 t') ∧ X.cell? ⟨N + 1, 2, none⟩ = some (.int .i64 c') ∧ X.cell? ⟨N + 1, 3, none⟩ = some (.slice a' n' ca')) (by kernel_rfl) ⟨HQ0.out.1.1 0, HQ0.out.1.1 1, HQ0.out.1.1 2, HQ0.out.1.1 3, HQ0.out.2.1.1 0, HQ0.out.2.1.1 1, HQ0.out.2.1.1 2, HQ0.out.2.1.1 3⟩ (fun hHeld => ?_)
  ((refine wpAnyH_take (i := 0) (v := ?_) (by (simp only [List.getElem?_toArray, List.getElem?_cons_succ, List.getElem?_cons_zero]); rfl) (by kernel_rfl) (by kernel_rfl) (by kernel_rfl) (by exact fun _ _ _ h => h) (Or.inl ⟨by rfl, ?_⟩) (by assumption) ?_); rotate_left; focus (intro wS hSw; (try dsimp only at hSw); go_simp; first | done | with_reducible rfl); try simp only [Act.put, List.setIfInBounds_toArray, List.set_cons_zero, List.set_cons_succ])
  ((refine wpAnyH_take (i := 2) (v := ?_) (by (simp only [List.getElem?_toArray, List.getElem?_cons_succ, List.getElem?_cons_zero]); rfl) (by kernel_rfl) (by kernel_rfl) (by kernel_rfl) (by exact fun _ _ _ h => h) (Or.inl ⟨by rfl, ?_⟩) (by assumption) ?_); rotate_left; focus (intro wS hSw; (try dsimp only at hSw); go_simp; first | done | with_reducible rfl); try simp only [Act.put, List.setIfInBounds_toArray, List.set_cons_zero, List.set_cons_succ])
  ((refine wpAnyH_ready (rs := [1]) (by kernel_rfl) (by simp) ?_); (refine AllReadyH.cons (by (simp only [List.getElem?_toArray, List.getElem?_cons_succ, List.getElem?_cons_zero]); rfl) (fun K hK => ?_) AllReadyH.nil); go_simp; refine Calls.mono (markOf_any num t c a n ca _) ?_)
  rintro e X1 ⟨rfl, hX1⟩
  have HQ1 := Lib.hid (HQ0.out.step hX1)
  (go_wp2_with fail; (refine hK.out _ _ ⟨HQ1.out.1.1 0, HQ1.out.1.1 1, HQ1.out.1.1 2, HQ1.out.1.1 3, HQ1.out.2.1.1 0, HQ1.out.2.1.1 1, HQ1.out.2.1.1 2, HQ1.out.2.1.1 3⟩ (fun hHeld => ?_)); clear hK K; try simp only [Act.put, List.setIfInBounds_toArray, List.set_cons_zero, List.set_cons_succ])
  ((refine wpAnyH_ready (rs := [3]) (by kernel_rfl) (by simp) ?_); (refine AllReadyH.cons (by (simp only [List.getElem?_toArray, List.getElem?_cons_succ, List.getElem?_cons_zero]); rfl) (fun K hK => ?_) AllReadyH.nil); go_simp; refine Calls.mono (markOf_any num' t' c' a' n' ca' _) ?_)
  rintro e X2 ⟨rfl, hX2⟩
  have HQ2 := Lib.hid (HQ1.out.step hX2)
  (go_wp2_with fail; (refine hK.out _ _ ⟨HQ2.out.1.1 0, HQ2.out.1.1 1, HQ2.out.1.1 2, HQ2.out.1.1 3, HQ2.out.2.1.1 0, HQ2.out.2.1.1 1, HQ2.out.2.1.1 2, HQ2.out.2.1.1 3⟩ (fun hHeld => ?_)); clear hK K; try simp only [Act.put, List.setIfInBounds_toArray, List.set_cons_zero, List.set_cons_succ])
  ((refine wpAnyH_take (i := 4) (v := ?_) (by (simp only [List.getElem?_toArray, List.getElem?_cons_succ, List.getElem?_cons_zero]); rfl) (by kernel_rfl) (by kernel_rfl) (by kernel_rfl) (by exact fun _ _ _ h => h) (Or.inl ⟨by rfl, ?_⟩) (by assumption) ?_); rotate_left; focus (intro wS hSw; (try dsimp only at hSw); go_simp; first | done | with_reducible rfl); try simp only [Act.put, List.setIfInBounds_toArray, List.set_cons_zero, List.set_cons_succ])
  ((refine wpAnyH_take (i := 5) (v := ?_) (by (simp only [List.getElem?_toArray, List.getElem?_cons_succ, List.getElem?_cons_zero]); rfl) (by kernel_rfl) (by kernel_rfl) (by kernel_rfl) (by exact fun _ _ _ h => h) (Or.inl ⟨by rfl, ?_⟩) (by assumption) ?_); rotate_left; focus (intro wS hSw; (try dsimp only at hSw); go_simp; first | done | with_reducible rfl); try simp only [Act.put, List.setIfInBounds_toArray, List.set_cons_zero, List.set_cons_succ])
  cases hmm : m
  · ((refine wpAnyH_take (i := 6) (v := undef) (by (simp only [List.getElem?_toArray, List.getElem?_cons_succ, List.getElem?_cons_zero]); rfl) (by kernel_rfl) (by kernel_rfl) (by kernel_rfl) (by exact fun _ _ _ h => h) (Or.inr ⟨by (go_simp; try (intro hh; cases hh)), rfl⟩) (by assumption) ?_); try simp only [Act.put, List.setIfInBounds_toArray, List.set_cons_zero, List.set_cons_succ])
    ((refine wpAnyH_take (i := 7) (v := undef) (by (simp only [List.getElem?_toArray, List.getElem?_cons_succ, List.getElem?_cons_zero]); rfl) (by kernel_rfl) (by kernel_rfl) (by kernel_rfl) (by exact fun _ _ _ h => h) (Or.inr ⟨by (go_simp; try (intro hh; cases hh)), rfl⟩) (by assumption) ?_); try simp only [Act.put, List.setIfInBounds_toArray, List.set_cons_zero, List.set_cons_succ])
    ((refine wpAnyH_take (i := 8) (v := undef) (by (simp only [List.getElem?_toArray, List.getElem?_cons_succ, List.getElem?_cons_zero]); rfl) (by kernel_rfl) (by kernel_rfl) (by kernel_rfl) (by exact fun _ _ _ h => h) (Or.inr ⟨by (go_simp; try (intro hh; cases hh)), rfl⟩) (by assumption) ?_); try simp only [Act.put, List.setIfInBounds_toArray, List.set_cons_zero, List.set_cons_succ])
    ((refine wpAnyH_take (i := 9) (v := undef) (by (simp only [List.getElem?_toArray, List.getElem?_cons_succ, List.getElem?_cons_zero]); rfl) (by kernel_rfl) (by kernel_rfl) (by kernel_rfl) (by exact fun _ _ _ h => h) (Or.inr ⟨by (go_simp; try (intro hh; cases hh)), rfl⟩) (by assumption) ?_); try simp only [Act.put, List.setIfInBounds_toArray, List.set_cons_zero, List.set_cons_succ])
    ((refine wpAnyH_take (i := 10) (v := undef) (by (simp only [List.getElem?_toArray, List.getElem?_cons_succ, List.getElem?_cons_zero]); rfl) (by kernel_rfl) (by kernel_rfl) (by kernel_rfl) (by exact fun _ _ _ h => h) (Or.inr ⟨by (go_simp; try (intro hh; cases hh)), rfl⟩) (by assumption) ?_); try simp only [Act.put, List.setIfInBounds_toArray, List.set_cons_zero, List.set_cons_succ])
    ((refine wpAnyH_take (i := 11) (v := ?_) (by (simp only [List.getElem?_toArray, List.getElem?_cons_succ, List.getElem?_cons_zero]); rfl) (by kernel_rfl) (by kernel_rfl) (by kernel_rfl) (by exact fun _ _ _ h => h) (Or.inl ⟨by rfl, ?_⟩) (by assumption) ?_); rotate_left; focus (intro wS hSw; (try dsimp only at hSw); go_simp; first | done | with_reducible rfl); try simp only [Act.put, List.setIfInBounds_toArray, List.set_cons_zero, List.set_cons_succ])
    ((refine wpAnyH_take (i := 12) (v := ?_) (by (simp only [List.getElem?_toArray, List.getElem?_cons_succ, List.getElem?_cons_zero]); rfl) (by kernel_rfl) (by kernel_rfl) (by kernel_rfl) (by exact fun _ _ _ h => h) (Or.inl ⟨by rfl, ?_⟩) (by assumption) ?_); rotate_left; focus (intro wS hSw; (try dsimp only at hSw); go_simp; first | done | with_reducible rfl); try simp only [Act.put, List.setIfInBounds_toArray, List.set_cons_zero, List.set_cons_succ])
    refine wpAnyH_done (by kernel_rfl) ?_ _
    go_wp2_with fail
    go_ret
    exact ⟨by rw [hmm]; rfl, HQ2.out.2.2⟩
  · ((refine wpAnyH_take (i := 6) (v := ?_) (by (simp only [List.getElem?_toArray, List.getElem?_cons_succ, List.getElem?_cons_zero]); rfl) (by kernel_rfl) (by kernel_rfl) (by kernel_rfl) (by exact fun _ _ _ h => h) (Or.inl ⟨by (go_simp; try rfl), ?_⟩) (by assumption) ?_); rotate_left; focus (intro wS hSw; (try dsimp only at hSw); go_simp; first | done | with_reducible rfl); try simp only [Act.put, List.setIfInBounds_toArray, List.set_cons_zero, List.set_cons_succ])
    ((refine wpAnyH_take (i := 7) (v := ?_) (by (simp only [List.getElem?_toArray, List.getElem?_cons_succ, List.getElem?_cons_zero]); rfl) (by kernel_rfl) (by kernel_rfl) (by kernel_rfl) (by exact fun _ _ _ h => h) (Or.inl ⟨by (go_simp; try rfl), ?_⟩) (by assumption) ?_); rotate_left; focus (intro wS hSw; (try dsimp only at hSw); go_simp; first | done | with_reducible rfl); try simp only [Act.put, List.setIfInBounds_toArray, List.set_cons_zero, List.set_cons_succ])
    ((refine wpAnyH_take (i := 8) (v := ?_) (by (simp only [List.getElem?_toArray, List.getElem?_cons_succ, List.getElem?_cons_zero]); rfl) (by kernel_rfl) (by kernel_rfl) (by kernel_rfl) (by exact fun _ _ _ h => h) (Or.inl ⟨by (go_simp; try rfl), ?_⟩) (by assumption) ?_); rotate_left; focus (intro wS hSw; (try dsimp only at hSw); go_simp; first | done | with_reducible rfl); try simp only [Act.put, List.setIfInBounds_toArray, List.set_cons_zero, List.set_cons_succ])
    ((refine wpAnyH_take (i := 9) (v := ?_) (by (simp only [List.getElem?_toArray, List.getElem?_cons_succ, List.getElem?_cons_zero]); rfl) (by kernel_rfl) (by kernel_rfl) (by kernel_rfl) (by exact fun _ _ _ h => h) (Or.inl ⟨by (go_simp; try rfl), ?_⟩) (by assumption) ?_); rotate_left; focus (intro wS hSw; (try dsimp only at hSw); go_simp; first | done | with_reducible rfl); try simp only [Act.put, List.setIfInBounds_toArray, List.set_cons_zero, List.set_cons_succ])
    ((refine wpAnyH_ready (rs := [10]) (by kernel_rfl) (by simp) ?_); (refine AllReadyH.cons (by (simp only [List.getElem?_toArray, List.getElem?_cons_succ, List.getElem?_cons_zero]); rfl) (fun K hK => ?_) AllReadyH.nil); go_simp; refine Calls.mono (equal_any a n ca b o X a' n' ca' b' o' X' _ (HP.out.below HQ2.out.2.2) (HR.out.below HQ2.out.2.2)) ?_)
    rintro e X3 ⟨rfl, hX3⟩
    have HQ3 := Lib.hid (HQ2.out.step hX3)
    (go_wp2_with fail; (refine hK.out _ _ ⟨HQ3.out.1.1 0, HQ3.out.1.1 1, HQ3.out.1.1 2, HQ3.out.1.1 3, HQ3.out.2.1.1 0, HQ3.out.2.1.1 1, HQ3.out.2.1.1 2, HQ3.out.2.1.1 3⟩ (fun hHeld => ?_)); clear hK K; try simp only [Act.put, List.setIfInBounds_toArray, List.set_cons_zero, List.set_cons_succ])
    ((refine wpAnyH_take (i := 11) (v := ?_) (by (simp only [List.getElem?_toArray, List.getElem?_cons_succ, List.getElem?_cons_zero]); rfl) (by kernel_rfl) (by kernel_rfl) (by kernel_rfl) (by exact fun _ _ _ h => h) (Or.inl ⟨by rfl, ?_⟩) (by assumption) ?_); rotate_left; focus (intro wS hSw; (try dsimp only at hSw); go_simp; first | done | with_reducible rfl); try simp only [Act.put, List.setIfInBounds_toArray, List.set_cons_zero, List.set_cons_succ])
    ((refine wpAnyH_take (i := 12) (v := ?_) (by (simp only [List.getElem?_toArray, List.getElem?_cons_succ, List.getElem?_cons_zero]); rfl) (by kernel_rfl) (by kernel_rfl) (by kernel_rfl) (by exact fun _ _ _ h => h) (Or.inl ⟨by rfl, ?_⟩) (by assumption) ?_); rotate_left; focus (intro wS hSw; (try dsimp only at hSw); go_simp; first | done | with_reducible rfl); try simp only [Act.put, List.setIfInBounds_toArray, List.set_cons_zero, List.set_cons_succ])
    refine wpAnyH_done (by kernel_rfl) ?_ _
    go_wp2_with fail
    go_ret
    exact ⟨by rw [hmm]; rfl, HQ3.out.2.2⟩

theorem bytesOf_eq (X Y : Nat → Nat) (hX : ∀ k, X k < 256) (hY : ∀ k, Y k < 256) (n m : Nat) : (bytesOf X n == bytesOf Y m) = (n == m && eqB X Y n) := by
  rw [Bool.eq_iff_iff]
  simp only [beq_iff_eq, Bool.and_eq_true, eqB_iff]
  constructor
  · intro h
    have hl : n = m := by have := congrArg List.length h; rwa [bytesOf_len, bytesOf_len] at this
    subst hl
    refine ⟨rfl, fun k hk => ?_⟩
    have h2 : (bytesOf X n)[k]? = (bytesOf Y n)[k]? := by rw [h]
    simp only [bytesOf, List.getElem?_map, List.getElem?_range hk, Option.map_some, Option.some.injEq] at h2
    have h3 := congrArg UInt8.toNat h2
    simp only [UInt8.toNat_ofNat'] at h3
    have := hX k
    have := hY k
    omega
  · rintro ⟨rfl, h⟩
    unfold bytesOf
    refine List.map_congr_left fun k hk => ?_
    rw [h k (List.mem_range.1 hk)]
theorem str_eql (w : World) (A B : List UInt8) : (binOp .eql 9 (.string ⟨A.toArray⟩) (.string ⟨B.toArray⟩)).run Try.prog w = .ok (.bool (A == B)) w := by
  have h : (binOp .eql 9 (.string ⟨A.toArray⟩) (.string ⟨B.toArray⟩)).run Try.prog w = .ok (.bool ((⟨A.toArray⟩ : ByteArray).toList == (⟨B.toArray⟩ : ByteArray).toList)) w := rfl
  rw [h, ByteArray.toList_eq, ByteArray.toList_eq]

set_option maxRecDepth 100000 in
set_option maxHeartbeats 8000000 in
theorem rsame_any (p q : PkE) (w : World) (hp : ByIn w p.a p.n p.ca p.b p.o p.X) (hq : ByIn w q.a q.n q.ca q.b q.o q.X) :
    Calls Try.prog 46 #[.agg #[.int .i64 p.num, .int .i64 p.t, .int .i64 p.c, .slice p.a p.n p.ca], .agg #[.int .i64 q.num, .int .i64 q.t, .int .i64 q.c, .slice q.a q.n q.ca]] w fun e w' => e = .returned (.bool (sameP p q)) ∧ Below w.heap.size w w' := by
  obtain ⟨num, t, c, a, n, ca, b, o, X⟩ := p
  obtain ⟨num', t', c', a', n', ca', b', o', X'⟩ := q
  simp only at *
  obtain ⟨N, hN⟩ : ∃ N, N = w.heap.size := ⟨_, rfl⟩
  obtain ⟨W1, hW1⟩ : ∃ W1, W1 = (w.alloc (.cells #[.int .i64 num, .int .i64 t, .int .i64 c, .slice a n ca] 57)).alloc (.cells #[.int .i64 num', .int .i64 t', .int .i64 c', .slice a' n' ca'] 57) := ⟨_, rfl⟩
  have hB1 : Below w.heap.size w W1 := by rw [hW1]; exact ((Below.refl _ _).alloc (Nat.le_refl _) _).alloc (by simp) _
  have hH := tw2 (X := W1) (n := N) (by rw [hW1]; exact Below.refl _ _) hN.symm
  have HB1 := Lib.hid hB1
  have s1 : (convert 55 9 (.slice a n ca)).run Try.prog W1 = .ok (.string ⟨(bytesOf X n).toArray⟩) W1 := (hp.below hB1).string
  have s2 : (convert 55 9 (.slice a' n' ca')).run Try.prog W1 = .ok (.string ⟨(bytesOf X' n').toArray⟩) W1 := (hq.below hB1).string
  have HBE := Lib.hid (bytesOf_eq X X' hp.bd hq.bd n n')
  have c0 := hH.1.1 0
  have c1 := hH.1.1 1
  have c2 := hH.1.1 2
  have c3 := hH.1.1 3
  have d0 := hH.2.1 0
  have d1 := hH.2.1 1
  have d2 := hH.2.1 2
  have d3 := hH.2.1 3
  have l1 := hH.1.2.2
  have l2 := hH.2.2.2
  simp at c0 c1 c2 c3 d0 d1 d2 d3
  clear hB1 hH hp hq
  go_enter Try.func46, Try.ntmps46
  go_upto_region 1 with fail
  rw [← hN, ← hW1]
  clear hN hW1
  by_cases h1 : num = num'
  · by_cases h2 : t = t'
    · by_cases h3 : c = c'
      · subst h1 h2 h3
        go_wp2_with fail
        go_ret
        exact ⟨by unfold sameP markB; simp [HBE.out], HB1.out⟩
      · have g3 : (c == c') = false := by simpa using h3
        subst h1 h2
        go_wp2_with fail
        go_ret
        exact ⟨by unfold sameP markB; simp [g3], HB1.out⟩
    · have g2 : (t == t') = false := by simpa using h2
      subst h1
      go_wp2_with fail
      go_ret
      exact ⟨by unfold sameP markB; simp [g2], HB1.out⟩
  · have g1 : (num == num') = false := by simpa using h1
    go_wp2_with fail
    go_ret
    exact ⟨by unfold sameP markB; simp [g1], HB1.out⟩
end Go.Proofs.Ytninhjeiialbjaa
