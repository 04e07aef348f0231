/-
  The eye: number.
-/
import Derived.Test.YtiednacpmlilbaaDoorWe
namespace Go.Proofs.YtiednacpmlilbaaDoor
open Go.RowKit
set_option linter.unusedSimpArgs false
set_option linter.unusedVariables false

theorem wrap_u64' (n : Int) : IntKind.u64.wrap n = ((u64 n : Nat) : Int) := by unfold u64 IntKind.wrap; simp [IntKind.bits, IntKind.signed]; omega
def accB (l : List Nat) (i : Nat) : Nat := (l.take i).foldl (fun a x => a * 256 + x) 0
theorem accB_succ {l : List Nat} {i : Nat} (h : i < l.length) : accB l (i + 1) = accB l i * 256 + gB l i := by
  unfold accB
  rw [List.take_add_one, gB_lt h]
  simp
theorem accB_lt {l : List Nat} (hb : ∀ x ∈ l, x < 256) : ∀ {i : Nat}, i ≤ l.length → accB l i < 256 ^ i
  | 0, _ => by simp [accB]
  | i + 1, h => by
    have h1 := accB_lt hb (i := i) (by omega)
    have h2 := hb _ (List.mem_of_getElem? (gB_lt (show i < l.length by omega)))
    rw [accB_succ (by omega), Nat.pow_succ]
    omega
theorem accB_seven {l : List Nat} (hb : ∀ x ∈ l, x < 256) {i : Nat} (h : i ≤ l.length) (h7 : i ≤ 7) : accB l i < 72057594037927936 :=
  Nat.lt_of_lt_of_le (accB_lt hb h) (Nat.pow_le_pow_right (by decide) h7)
theorem or_low {A x : Nat} (hA : A < 72057594037927936) (hx : x < 256) : bits .or .u64 ((A * 256 : Nat) : Int) (x : Int) = ((A * 256 + x : Nat) : Int) := by
  show IntKind.u64.wrap ((BitVec.ofInt 64 ((A * 256 : Nat) : Int) ||| BitVec.ofInt 64 (x : Int)).toNat : Int) = _
  rw [BitVec.toNat_or, BitVec.ofInt_natCast, BitVec.ofInt_natCast, BitVec.toNat_ofNat, BitVec.toNat_ofNat, Nat.mod_eq_of_lt (by omega), Nat.mod_eq_of_lt (by omega)]
  have h := Nat.shiftLeft_add_eq_or_of_lt (i := 8) (b := x) (by omega) A
  rw [Nat.shiftLeft_eq] at h
  rw [show (A * 256 ||| x) = A * 2 ^ 8 ||| x from rfl, ← h, wrap_u64']
  unfold u64
  omega
theorem wrap_i64_acc {v : Nat} (h : v < 18446744073709551616) : IntKind.i64.wrap (v : Int) = i64 v := by
  rw [IntKind.wrap_i64]
  unfold i64
  split <;> omega
section
variable {y lo : Nat} {bs : List Nat}
set_option maxRecDepth 100000 in
set_option maxHeartbeats 8000000 in
theorem eye_number : StepC (eyeS y lo bs) .num 80 := by
  intro W s ty g j d hI hD hP
  obtain ⟨x0, hA, -⟩ := hD
  have HTK := Lib.hid (eye_take W s 8 hI (by omega))
  have HA := Lib.hid hA
  clear hA hI hP
  rcases ht : takeB bs s 8 with a | l
  · have hst : (eyeS y lo bs).step .num s d = .error a := by
      show (match (match (match takeB bs s 8 with | .ok l => Except.ok (d8 l) | .error e => .error e) with | .ok n => Except.ok (WD.i n, s + 8) | .error e => .error e) with | .error a => Except.error a | .ok (x, s2) => .ok (s2, x)) = _
      rw [ht]
    rw [hst]
    have HC1 := Lib.hid (show Calls Tryd.prog 112 #[.pointer (some ⟨y, 0, none⟩), .int .i64 8] W (fun e W' => FrA (eyeS y lo bs) (fun _ _ _ => False) W W' ∧ e = .panicked [{ v := refV a, recovered := false }]) from by have := HTK.out; rw [ht] at this; exact this)
    show Calls Tryd.prog _ #[.pointer (some ⟨y, 0, none⟩), .pointer (some ⟨g, j, none⟩)] W _
    clear hst HTK ht
    go_enter Tryd.func80, Tryd.ntmps80
    go_wp2_with (refine Calls.mono HC1.out ?_; rintro e W1 ⟨hF, rfl⟩)
    exact (show _ ∧ EndS (eyeS y lo bs) (cell1 ty g j) W _ _ _ _ from ⟨rfl, hF.mono (fun _ _ _ h => h.elim), rfl⟩)
  · have HC1 := Lib.hid (show Calls Tryd.prog 112 #[.pointer (some ⟨y, 0, none⟩), .int .i64 8] W (fun e W' => FrA (eyeS y lo bs) (fun _ _ _ => False) W W' ∧ ∃ v, e = .returned v ∧ (eyeS y lo bs).In W' (s + 8) ∧ BL lo W' v l ∧ l.length = 8) from by have := HTK.out; rw [ht] at this; exact this)
    clear HTK
    have hl8 : l.length = 8 := (takeB_ok ht).2.1
    obtain ⟨PO, hPO⟩ : ∃ PO : World → Prop, PO = fun W' => FrA (eyeS y lo bs) (cell1 ty g j) W W' ∧ (eyeS y lo bs).In W' (s + 8) ∧ Dp (eyeS y lo bs) W' .num ty g j (.i (d8 l)) := ⟨_, rfl⟩
    have hst : (eyeS y lo bs).step .num s d = .ok (s + 8, .i (d8 l)) := by
      show (match (match (match takeB bs s 8 with | .ok l => Except.ok (d8 l) | .error e => .error e) with | .ok n => Except.ok (WD.i n, s + 8) | .error e => .error e) with | .error a => Except.error a | .ok (x, s2) => .ok (s2, x)) = _
      rw [ht]
    suffices hsuf : Calls Tryd.prog 80 #[.pointer (some ⟨y, 0, none⟩), .pointer (some ⟨g, j, none⟩)] W (fun e W' => e = .returned (.tuple #[]) ∧ PO W') from Calls.mono hsuf fun e W' h => by
      obtain ⟨h1, h2⟩ := h
      rw [hPO] at h2
      rw [hst]
      exact ⟨h2.1, h1, h2.2⟩
    have HEND := Lib.hid (fun W1 (h1 : FrA (eyeS y lo bs) (fun _ _ _ => False) W W1) (h2 : (eyeS y lo bs).In W1 (s + 8)) (hx : ∀ x ∈ l, x < 256) => show PO (W1.setCell ⟨g, j, none⟩ (.int .i64 (d8 l))) by
      rw [hPO]
      have h := eye_store (v' := .int .i64 (d8 l)) h2 (HA.out.fr h1 id) h1
      exact ⟨h.1, h.2.1, _, h.2.2, rfl, (e8_d8 hl8 hx).2⟩)
    clear hPO hst
    go_enter Tryd.func80, Tryd.ntmps80
    go_wp2_with (refine Calls.mono HC1.out ?_; rintro e W1 ⟨hF, v, rfl, hI1, ⟨a1, b1, o1, c1, rfl, hby, hbl⟩, hll⟩; obtain ⟨ea, hblt⟩ := hby.at_ (by rw [hll]; omega); subst ea; rw [hll] at hby; have HBY := Lib.hid hby; have q1 := (HA.out.fr hF id).cell; have q2 := (HA.out.fr hF id).free; have hbd : (∀ x ∈ l, x < 256) := (fun x hx => (show BV W1 (.slice (some ⟨b1, o1, none⟩) l.length c1) l from ⟨_, b1, o1, c1, rfl, by rw [hll]; exact hby⟩).ok x hx); have HE := Lib.hid (HEND.out W1 hF hI1 hbd); have HBD := Lib.hid hbd; clear hF hI1 hby hbl hblt hbd; try rw [hll])
    clear HC1 HEND
    have HL := Lib.hid hl8
    clear hl8 ht
    go_upto_region 2 with fail
    go_loopw [4, 6, 10] (fun n x k wr => ∃ i : Nat, i ≤ 8 ∧ wr = W1 ∧ k = .int .i64 i ∧ n = .int .u64 (accB l i : Nat)) (fun _ _ k _ => 8 - (intOf k).toNat)
    case atStart => exact ⟨0, by omega, rfl, rfl, rfl⟩
    case round =>
      obtain ⟨i, hi, rfl, rfl, rfl⟩ := hrel
      by_cases hlt : i < 8
      · skip
        have b9 : (i < 8) = True := eq_true hlt
        have ww5 : IntKind.i64.wrap ((i : Int) + 1) = (i : Int) + 1 := IntWalk.i64_in _ (by omega)
        obtain ⟨x, hx⟩ : ∃ x, x = gB l i := ⟨_, rfl⟩
        have hx2 : x < 256 := by rw [hx]; exact HBD.out _ (List.mem_of_getElem? (gB_lt (by rw [HL.out]; exact hlt)))
        have c9 : wr.cell? ⟨b1, o1 + i, none⟩ = some (.int .u8 (x : Nat)) := by rw [hx]; exact HBY.out.cell i hlt
        have hA7 := accB_seven HBD.out (i := i) (by rw [HL.out]; omega) (by omega)
        have hsu := accB_succ (l := l) (i := i) (by rw [HL.out]; exact hlt)
        rw [← hx] at hsu
        obtain ⟨A, hA⟩ : ∃ A, A = accB l i := ⟨_, rfl⟩
        rw [← hA] at hA7 hsu ⊢
        have s1 : IntKind.u64.wrap ((A : Int) * 256) = ((A * 256 : Nat) : Int) := by rw [wrap_u64']; unfold u64; omega
        have s2 : IntKind.u64.wrap (x : Int) = (x : Int) := by rw [wrap_u64']; unfold u64; omega
        have s3 := or_low hA7 hx2
        rw [← hsu] at s3
        have HSU := Lib.hid hsu
        clear hA hsu hx hA7 hx2
        go_wp2_with fail
        go_roundw
        case measure => first | (simp [intOf]; done) | (simp [intOf]; omega)
        case rel => exact ⟨i + 1, by omega, by first | rfl | trivial, by go_num, by first | rfl | (congr 1)⟩
      · skip
        obtain rfl : i = 8 := by omega
        have hlt : accB l 8 < 18446744073709551616 := by
          have := accB_lt HBD.out (i := 8) (by rw [HL.out]; omega)
          exact this
        have hv : IntKind.i64.wrap ((accB l 8 : Nat) : Int) = d8 l := by
          rw [wrap_i64_acc hlt]
          unfold d8 accB
          rw [List.take_of_length_le (by rw [HL.out]; omega)]
        obtain ⟨A, hA⟩ : ∃ A, A = accB l 8 := ⟨_, rfl⟩
        rw [← hA] at hv ⊢
        clear hlt hA
        go_wp2_with fail
        go_end0
        exact ⟨rfl, HE.out⟩
end
end Go.Proofs.YtiednacpmlilbaaDoor
