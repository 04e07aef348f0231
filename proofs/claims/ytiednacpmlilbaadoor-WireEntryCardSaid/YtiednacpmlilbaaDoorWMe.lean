/-
  Package wire: several texts in one.
-/
import Derived.Test.YtiednacpmlilbaaDoorWe
namespace Go.Proofs.YtiednacpmlilbaaDoor
open Go.RowKit
set_option linter.unusedSimpArgs false
set_option linter.unusedVariables false

section
variable {y lo : Nat} {bs : List Nat}
theorem wrap_i8 {x : Nat} (h : x < 256) : IntKind.i8.wrap (x : Int) = i8 x := by unfold i8 IntKind.wrap; simp [IntKind.bits, IntKind.signed]; split <;> split <;> omega
set_option maxRecDepth 100000 in
set_option maxHeartbeats 8000000 in
theorem eye_small : StepC (eyeS y lo bs) .small 81 := by
  intro W s ty g j d hI hD hP
  obtain ⟨x0, hA, -⟩ := hD
  have HTK := Lib.hid (eye_take W s 1 hI (by omega))
  have HA := Lib.hid hA
  clear hA hI hP
  rcases ht : takeB bs s 1 with a | l
  · have hst : (eyeS y lo bs).step .small s d = .error a := by
      show (match (match takeB bs s 1 with | .ok l => Except.ok (WD.i (i8 (l.headD 0)), s + 1) | .error e => .error e) with | .error a => Except.error a | .ok (x, s2) => .ok (s2, x)) = _
      rw [ht]
    rw [hst]
    have HC1 := Lib.hid (show Calls Tryd.prog 112 #[.pointer (some ⟨y, 0, none⟩), .int .i64 1] W (fun e W' => FrA (eyeS y lo bs) (fun _ _ _ => False) W W' ∧ e = .panicked [{ v := refV a, recovered := false }]) from by have := HTK.out; rw [ht] at this; exact this)
    show Calls Tryd.prog _ #[.pointer (some ⟨y, 0, none⟩), .pointer (some ⟨g, j, none⟩)] W _
    clear hst HTK ht
    go_enter Tryd.func81, Tryd.ntmps81
    go_wp2_with (refine Calls.mono HC1.out ?_; rintro e W1 ⟨hF, rfl⟩)
    exact (show _ ∧ EndS (eyeS y lo bs) (cell1 ty g j) W _ _ _ _ from ⟨rfl, hF.mono (fun _ _ _ h => h.elim), rfl⟩)
  · have HC1 := Lib.hid (show Calls Tryd.prog 112 #[.pointer (some ⟨y, 0, none⟩), .int .i64 1] W (fun e W' => FrA (eyeS y lo bs) (fun _ _ _ => False) W W' ∧ ∃ v, e = .returned v ∧ (eyeS y lo bs).In W' (s + 1) ∧ BL lo W' v l ∧ l.length = 1) from by have := HTK.out; rw [ht] at this; exact this)
    clear HTK
    have hl1 : l.length = 1 := (takeB_ok ht).2.1
    obtain ⟨x, rfl⟩ := len1 hl1
    obtain ⟨PO, hPO⟩ : ∃ PO : World → Prop, PO = fun W' => FrA (eyeS y lo bs) (cell1 ty g j) W W' ∧ (eyeS y lo bs).In W' (s + 1) ∧ Dp (eyeS y lo bs) W' .small ty g j (.i (i8 x)) := ⟨_, rfl⟩
    have hst : (eyeS y lo bs).step .small s d = .ok (s + 1, .i (i8 x)) := by
      show (match (match takeB bs s 1 with | .ok l => Except.ok (WD.i (i8 (l.headD 0)), s + 1) | .error e => .error e) with | .error a => Except.error a | .ok (x, s2) => .ok (s2, x)) = _
      rw [ht]
      rfl
    suffices hsuf : Calls Tryd.prog 81 #[.pointer (some ⟨y, 0, none⟩), .pointer (some ⟨g, j, none⟩)] W (fun e W' => e = .returned (.tuple #[]) ∧ PO W') from Calls.mono hsuf fun e W' h => by
      obtain ⟨h1, h2⟩ := h
      rw [hPO] at h2
      rw [hst]
      exact ⟨h2.1, h1, h2.2⟩
    have HEND := Lib.hid (fun W1 (h1 : FrA (eyeS y lo bs) (fun _ _ _ => False) W W1) (h2 : (eyeS y lo bs).In W1 (s + 1)) (hx : x < 256) => show PO (W1.setCell ⟨g, j, none⟩ (.int .i8 (i8 x))) by
      rw [hPO]
      have h := eye_store (v' := .int .i8 (i8 x)) h2 (HA.out.fr h1 id) h1
      exact ⟨h.1, h.2.1, _, h.2.2, rfl, (u8_i8 hx).2⟩)
    clear hPO hst
    go_enter Tryd.func81, Tryd.ntmps81
    go_wp2_with (refine Calls.mono HC1.out ?_; rintro e W1 ⟨hF, v, rfl, hI1, ⟨a1, b1, o1, c1, rfl, hby, hbl⟩, hll⟩; obtain ⟨ea, hblt⟩ := hby.at_ (by rw [hll]; omega); subst ea; have c9 : W1.cell? ⟨b1, o1, none⟩ = some (.int .u8 (x : Nat)) := (hby.cell 0 (by rw [hll]; omega)); have hx := hby.bd 0 (by rw [hll]; omega); have hx : x < 256 := hx; have q1 := (HA.out.fr hF id).cell; have q2 := (HA.out.fr hF id).free; have HE := Lib.hid (HEND.out W1 hF hI1 hx); have cv : IntKind.i8.wrap (x : Int) = i8 x := wrap_i8 hx; clear hF hI1 hby hbl hll hblt)
    try go_wp2_with fail
    go_end0
    exact ⟨rfl, HE.out⟩
set_option maxRecDepth 100000 in
set_option maxHeartbeats 8000000 in
theorem eye_set : StepC (eyeS y lo bs) .set 82 := by
  intro W s ty g j d hI hD hP
  obtain ⟨x0, hA, -⟩ := hD
  have HTK := Lib.hid (eye_take W s 1 hI (by omega))
  have HA := Lib.hid hA
  clear hA hI hP
  rcases ht : takeB bs s 1 with a | l
  · have hst : (eyeS y lo bs).step .set s d = .error a := by
      show (match (match takeB bs s 1 with | .ok l => Except.ok (WD.i (l.headD 0 : Nat), s + 1) | .error e => .error e) with | .error a => Except.error a | .ok (x, s2) => .ok (s2, x)) = _
      rw [ht]
    rw [hst]
    have HC1 := Lib.hid (show Calls Tryd.prog 112 #[.pointer (some ⟨y, 0, none⟩), .int .i64 1] W (fun e W' => FrA (eyeS y lo bs) (fun _ _ _ => False) W W' ∧ e = .panicked [{ v := refV a, recovered := false }]) from by have := HTK.out; rw [ht] at this; exact this)
    show Calls Tryd.prog _ #[.pointer (some ⟨y, 0, none⟩), .pointer (some ⟨g, j, none⟩)] W _
    clear hst HTK ht
    go_enter Tryd.func82, Tryd.ntmps82
    go_wp2_with (refine Calls.mono HC1.out ?_; rintro e W1 ⟨hF, rfl⟩)
    exact (show _ ∧ EndS (eyeS y lo bs) (cell1 ty g j) W _ _ _ _ from ⟨rfl, hF.mono (fun _ _ _ h => h.elim), rfl⟩)
  · have HC1 := Lib.hid (show Calls Tryd.prog 112 #[.pointer (some ⟨y, 0, none⟩), .int .i64 1] W (fun e W' => FrA (eyeS y lo bs) (fun _ _ _ => False) W W' ∧ ∃ v, e = .returned v ∧ (eyeS y lo bs).In W' (s + 1) ∧ BL lo W' v l ∧ l.length = 1) from by have := HTK.out; rw [ht] at this; exact this)
    clear HTK
    have hl1 : l.length = 1 := (takeB_ok ht).2.1
    obtain ⟨x, rfl⟩ := len1 hl1
    obtain ⟨PO, hPO⟩ : ∃ PO : World → Prop, PO = fun W' => FrA (eyeS y lo bs) (cell1 ty g j) W W' ∧ (eyeS y lo bs).In W' (s + 1) ∧ Dp (eyeS y lo bs) W' .set ty g j (.i (x : Nat)) := ⟨_, rfl⟩
    have hst : (eyeS y lo bs).step .set s d = .ok (s + 1, .i (x : Nat)) := by
      show (match (match takeB bs s 1 with | .ok l => Except.ok (WD.i (l.headD 0 : Nat), s + 1) | .error e => .error e) with | .error a => Except.error a | .ok (x, s2) => .ok (s2, x)) = _
      rw [ht]
      rfl
    suffices hsuf : Calls Tryd.prog 82 #[.pointer (some ⟨y, 0, none⟩), .pointer (some ⟨g, j, none⟩)] W (fun e W' => e = .returned (.tuple #[]) ∧ PO W') from Calls.mono hsuf fun e W' h => by
      obtain ⟨h1, h2⟩ := h
      rw [hPO] at h2
      rw [hst]
      exact ⟨h2.1, h1, h2.2⟩
    have HEND := Lib.hid (fun W1 (h1 : FrA (eyeS y lo bs) (fun _ _ _ => False) W W1) (h2 : (eyeS y lo bs).In W1 (s + 1)) (hx : x < 256) => show PO (W1.setCell ⟨g, j, none⟩ (.int .u8 (x : Nat))) by
      rw [hPO]
      have h := eye_store (v' := .int .u8 (x : Nat)) h2 (HA.out.fr h1 id) h1
      exact ⟨h.1, h.2.1, _, h.2.2, rfl, by omega, by omega⟩)
    clear hPO hst
    go_enter Tryd.func82, Tryd.ntmps82
    go_wp2_with (refine Calls.mono HC1.out ?_; rintro e W1 ⟨hF, v, rfl, hI1, ⟨a1, b1, o1, c1, rfl, hby, hbl⟩, hll⟩; obtain ⟨ea, hblt⟩ := hby.at_ (by rw [hll]; omega); subst ea; have c9 : W1.cell? ⟨b1, o1, none⟩ = some (.int .u8 (x : Nat)) := (hby.cell 0 (by rw [hll]; omega)); have hx := hby.bd 0 (by rw [hll]; omega); have hx : x < 256 := hx; have q1 := (HA.out.fr hF id).cell; have q2 := (HA.out.fr hF id).free; have HE := Lib.hid (HEND.out W1 hF hI1 hx); clear hF hI1 hby hbl hll hblt)
    try go_wp2_with fail
    go_end0
    exact ⟨rfl, HE.out⟩
end


section
variable {y lo : Nat} {bs : List Nat}
theorem eq1 (x : Nat) : ((x : Int) == 1) = (x == 1) := by
  by_cases e : x = 1
  · subst e; rfl
  · rw [beq_eq_false_iff_ne.2 (show (x : Int) ≠ 1 by omega), beq_eq_false_iff_ne.2 e]
set_option maxRecDepth 100000 in
set_option maxHeartbeats 8000000 in
theorem eye_truth : StepC (eyeS y lo bs) .truth 83 := by
  intro W s ty g j d hI hD hP
  obtain ⟨x0, hA, -⟩ := hD
  have HTK := Lib.hid (eye_take W s 1 hI (by omega))
  have HA := Lib.hid hA
  clear hA hI hP
  rcases ht : takeB bs s 1 with a | l
  · have hst : (eyeS y lo bs).step .truth s d = .error a := by
      show (match (match takeB bs s 1 with | .ok l => if l.headD 0 ≤ 1 then Except.ok (WD.i (l.headD 0 : Nat), s + 1) else .error s | .error e => .error e) with | .error a => Except.error a | .ok (x, s2) => .ok (s2, x)) = _
      rw [ht]
    rw [hst]
    have HC1 := Lib.hid (show Calls Tryd.prog 112 #[.pointer (some ⟨y, 0, none⟩), .int .i64 1] W (fun e W' => FrA (eyeS y lo bs) (fun _ _ _ => False) W W' ∧ e = .panicked [{ v := refV a, recovered := false }]) from by have := HTK.out; rw [ht] at this; exact this)
    show Calls Tryd.prog _ #[.pointer (some ⟨y, 0, none⟩), .pointer (some ⟨g, j, none⟩)] W _
    clear hst HTK ht
    go_enter Tryd.func83, Tryd.ntmps83
    go_wp2_with (refine Calls.mono HC1.out ?_; rintro e W1 ⟨hF, rfl⟩)
    exact (show _ ∧ EndS (eyeS y lo bs) (cell1 ty g j) W _ _ _ _ from ⟨rfl, hF.mono (fun _ _ _ h => h.elim), rfl⟩)
  · have HC1 := Lib.hid (show Calls Tryd.prog 112 #[.pointer (some ⟨y, 0, none⟩), .int .i64 1] W (fun e W' => FrA (eyeS y lo bs) (fun _ _ _ => False) W W' ∧ ∃ v, e = .returned v ∧ (eyeS y lo bs).In W' (s + 1) ∧ BL lo W' v l ∧ l.length = 1) from by have := HTK.out; rw [ht] at this; exact this)
    clear HTK
    have hl1 : l.length = 1 := (takeB_ok ht).2.1
    obtain ⟨x, rfl⟩ := len1 hl1
    by_cases hx1 : x ≤ 1
    · skip
      obtain ⟨PO, hPO⟩ : ∃ PO : World → Prop, PO = fun W' => FrA (eyeS y lo bs) (cell1 ty g j) W W' ∧ (eyeS y lo bs).In W' (s + 1) ∧ Dp (eyeS y lo bs) W' .truth ty g j (.i (x : Nat)) := ⟨_, rfl⟩
      have hst : (eyeS y lo bs).step .truth s d = .ok (s + 1, .i (x : Nat)) := by
        show (match (match takeB bs s 1 with | .ok l => if l.headD 0 ≤ 1 then Except.ok (WD.i (l.headD 0 : Nat), s + 1) else .error s | .error e => .error e) with | .error a => Except.error a | .ok (x, s2) => .ok (s2, x)) = _
        rw [ht]
        show (match (if x ≤ 1 then Except.ok (WD.i (x : Nat), s + 1) else .error s) with | .error a => Except.error a | .ok (x, s2) => .ok (s2, x)) = _
        rw [if_pos hx1]
      suffices hsuf : Calls Tryd.prog 83 #[.pointer (some ⟨y, 0, none⟩), .pointer (some ⟨g, j, none⟩)] W (fun e W' => e = .returned (.tuple #[]) ∧ PO W') from Calls.mono hsuf fun e W' h => by
        obtain ⟨h1, h2⟩ := h
        rw [hPO] at h2
        rw [hst]
        exact ⟨h2.1, h1, h2.2⟩
      have HEND := Lib.hid (fun W1 (h1 : FrA (eyeS y lo bs) (fun _ _ _ => False) W W1) (h2 : (eyeS y lo bs).In W1 (s + 1)) (hx : x < 256) => show PO (W1.setCell ⟨g, j, none⟩ (.bool (x == 1))) by
        rw [hPO]
        have h := eye_store (v' := .bool (x == 1)) h2 (HA.out.fr h1 id) h1
        exact ⟨h.1, h.2.1, _, h.2.2, (x == 1), rfl, by have h9 := hx1; by_cases e : x = 1 <;> simp [e] <;> omega⟩)
      clear hPO hst
      go_enter Tryd.func83, Tryd.ntmps83
      go_wp2_with (refine Calls.mono HC1.out ?_; rintro e W1 ⟨hF, v, rfl, hI1, ⟨a1, b1, o1, c1, rfl, hby, hbl⟩, hll⟩; obtain ⟨ea, hblt⟩ := hby.at_ (by rw [hll]; omega); subst ea; have c9 : W1.cell? ⟨b1, o1, none⟩ = some (.int .u8 (x : Nat)) := (hby.cell 0 (by rw [hll]; omega)); have hx := hby.bd 0 (by rw [hll]; omega); have hx : x < 256 := hx; have q1 := (HA.out.fr hF id).cell; have q2 := (HA.out.fr hF id).free; have HE := Lib.hid (HEND.out W1 hF hI1 hx); have t1 : ((1 : Int) < (x : Int)) = False := eq_false (by omega); have t2 : ((x : Int) == 1) = (x == 1) := eq1 x; clear hF hI1 hby hbl hll hblt)
      try go_wp2_with fail
      go_end0
      exact ⟨rfl, HE.out⟩
    · skip
      have hst : (eyeS y lo bs).step .truth s d = .error s := by
        show (match (match takeB bs s 1 with | .ok l => if l.headD 0 ≤ 1 then Except.ok (WD.i (l.headD 0 : Nat), s + 1) else .error s | .error e => .error e) with | .error a => Except.error a | .ok (x, s2) => .ok (s2, x)) = _
        rw [ht]
        show (match (if x ≤ 1 then Except.ok (WD.i (x : Nat), s + 1) else .error s) with | .error a => Except.error a | .ok (x, s2) => .ok (s2, x)) = _
        rw [if_neg hx1]
      rw [hst]
      show Calls Tryd.prog _ #[.pointer (some ⟨y, 0, none⟩), .pointer (some ⟨g, j, none⟩)] W _
      clear hst ht
      go_enter Tryd.func83, Tryd.ntmps83
      go_wp2_with (refine Calls.mono HC1.out ?_; rintro e W1 ⟨hF, v, rfl, hI1, ⟨a1, b1, o1, c1, rfl, hby, hbl⟩, hll⟩; obtain ⟨ea, hblt⟩ := hby.at_ (by rw [hll]; omega); subst ea; have c9 : W1.cell? ⟨b1, o1, none⟩ = some (.int .u8 (x : Nat)) := (hby.cell 0 (by rw [hll]; omega)); have hx := hby.bd 0 (by rw [hll]; omega); have hx : x < 256 := hx; have q1 := (HA.out.fr hF id).cell; have q2 := (HA.out.fr hF id).free; have t1 : ((1 : Int) < (x : Int)) = True := eq_true (by omega); have HF1 := Lib.hid (hF.mono (C := cell1 ty g j) (fun _ _ _ h => h.elim)); obtain ⟨v2, hb2, -, hs2, -, hl2⟩ := hI1; have y1 : W1.cell? ⟨y, 1, none⟩ = some (.int .i64 ((s + 1 : Nat) : Int)) := cell_at hb2 1; have wz : IntKind.i64.wrap (((s + 1 : Nat) : Int) - 1) = (s : Int) := (by rw [IntWalk.i64_in _ (by omega)]; omega); have wy : wrap64 (s : Int) = (s : Int) := IntWalk.wrap64_in _ (by omega); clear hF hb2 hby hbl hll hblt hl2)
      exact (show _ ∧ EndS (eyeS y lo bs) (cell1 ty g j) W _ _ _ _ from ⟨rfl, HF1.out, rfl⟩)
end


theorem wrap_u64' (n : Int) : IntKind.u64.wrap n = ((u64 n : Nat) : Int) := by unfold u64 IntKind.wrap; simp [IntKind.bits, IntKind.signed]; omega
def accB (l : List Nat) (i : Nat) : Nat := (l.take i).foldl (fun a x => a * 256 + x) 0
theorem accB_succ {l : List Nat} {i : Nat} (h : i < l.length) : accB l (i + 1) = accB l i * 256 + gB l i := by
  unfold accB
  rw [List.take_add_one, gB_lt h]
  simp
theorem accB_lt {l : List Nat} (hb : ∀ x ∈ l, x < 256) : ∀ {i : Nat}, i ≤ l.length → accB l i < 256 ^ i
  | 0, _ => by simp [accB]
  | i + 1, h => by
    have h1 := accB_lt hb (i := i) (by omega)
    have h2 := hb _ (List.mem_of_getElem? (gB_lt (show i < l.length by omega)))
    rw [accB_succ (by omega), Nat.pow_succ]
    omega
theorem accB_seven {l : List Nat} (hb : ∀ x ∈ l, x < 256) {i : Nat} (h : i ≤ l.length) (h7 : i ≤ 7) : accB l i < 72057594037927936 :=
  Nat.lt_of_lt_of_le (accB_lt hb h) (Nat.pow_le_pow_right (by decide) h7)
theorem or_low {A x : Nat} (hA : A < 72057594037927936) (hx : x < 256) : bits .or .u64 ((A * 256 : Nat) : Int) (x : Int) = ((A * 256 + x : Nat) : Int) := by
  show IntKind.u64.wrap ((BitVec.ofInt 64 ((A * 256 : Nat) : Int) ||| BitVec.ofInt 64 (x : Int)).toNat : Int) = _
  rw [BitVec.toNat_or, BitVec.ofInt_natCast, BitVec.ofInt_natCast, BitVec.toNat_ofNat, BitVec.toNat_ofNat, Nat.mod_eq_of_lt (by omega), Nat.mod_eq_of_lt (by omega)]
  have h := Nat.shiftLeft_add_eq_or_of_lt (i := 8) (b := x) (by omega) A
  rw [Nat.shiftLeft_eq] at h
  rw [show (A * 256 ||| x) = A * 2 ^ 8 ||| x from rfl, ← h, wrap_u64']
  unfold u64
  omega
theorem wrap_i64_acc {v : Nat} (h : v < 18446744073709551616) : IntKind.i64.wrap (v : Int) = i64 v := by
  rw [IntKind.wrap_i64]
  unfold i64
  split <;> omega
section
variable {y lo : Nat} {bs : List Nat}
set_option maxRecDepth 100000 in
set_option maxHeartbeats 8000000 in
theorem eye_number : StepC (eyeS y lo bs) .num 80 := by
  intro W s ty g j d hI hD hP
  obtain ⟨x0, hA, -⟩ := hD
  have HTK := Lib.hid (eye_take W s 8 hI (by omega))
  have HA := Lib.hid hA
  clear hA hI hP
  rcases ht : takeB bs s 8 with a | l
  · have hst : (eyeS y lo bs).step .num s d = .error a := by
      show (match (match (match takeB bs s 8 with | .ok l => Except.ok (d8 l) | .error e => .error e) with | .ok n => Except.ok (WD.i n, s + 8) | .error e => .error e) with | .error a => Except.error a | .ok (x, s2) => .ok (s2, x)) = _
      rw [ht]
    rw [hst]
    have HC1 := Lib.hid (show Calls Tryd.prog 112 #[.pointer (some ⟨y, 0, none⟩), .int .i64 8] W (fun e W' => FrA (eyeS y lo bs) (fun _ _ _ => False) W W' ∧ e = .panicked [{ v := refV a, recovered := false }]) from by have := HTK.out; rw [ht] at this; exact this)
    show Calls Tryd.prog _ #[.pointer (some ⟨y, 0, none⟩), .pointer (some ⟨g, j, none⟩)] W _
    clear hst HTK ht
    go_enter Tryd.func80, Tryd.ntmps80
    go_wp2_with (refine Calls.mono HC1.out ?_; rintro e W1 ⟨hF, rfl⟩)
    exact (show _ ∧ EndS (eyeS y lo bs) (cell1 ty g j) W _ _ _ _ from ⟨rfl, hF.mono (fun _ _ _ h => h.elim), rfl⟩)
  · have HC1 := Lib.hid (show Calls Tryd.prog 112 #[.pointer (some ⟨y, 0, none⟩), .int .i64 8] W (fun e W' => FrA (eyeS y lo bs) (fun _ _ _ => False) W W' ∧ ∃ v, e = .returned v ∧ (eyeS y lo bs).In W' (s + 8) ∧ BL lo W' v l ∧ l.length = 8) from by have := HTK.out; rw [ht] at this; exact this)
    clear HTK
    have hl8 : l.length = 8 := (takeB_ok ht).2.1
    obtain ⟨PO, hPO⟩ : ∃ PO : World → Prop, PO = fun W' => FrA (eyeS y lo bs) (cell1 ty g j) W W' ∧ (eyeS y lo bs).In W' (s + 8) ∧ Dp (eyeS y lo bs) W' .num ty g j (.i (d8 l)) := ⟨_, rfl⟩
    have hst : (eyeS y lo bs).step .num s d = .ok (s + 8, .i (d8 l)) := by
      show (match (match (match takeB bs s 8 with | .ok l => Except.ok (d8 l) | .error e => .error e) with | .ok n => Except.ok (WD.i n, s + 8) | .error e => .error e) with | .error a => Except.error a | .ok (x, s2) => .ok (s2, x)) = _
      rw [ht]
    suffices hsuf : Calls Tryd.prog 80 #[.pointer (some ⟨y, 0, none⟩), .pointer (some ⟨g, j, none⟩)] W (fun e W' => e = .returned (.tuple #[]) ∧ PO W') from Calls.mono hsuf fun e W' h => by
      obtain ⟨h1, h2⟩ := h
      rw [hPO] at h2
      rw [hst]
      exact ⟨h2.1, h1, h2.2⟩
    have HEND := Lib.hid (fun W1 (h1 : FrA (eyeS y lo bs) (fun _ _ _ => False) W W1) (h2 : (eyeS y lo bs).In W1 (s + 8)) (hx : ∀ x ∈ l, x < 256) => show PO (W1.setCell ⟨g, j, none⟩ (.int .i64 (d8 l))) by
      rw [hPO]
      have h := eye_store (v' := .int .i64 (d8 l)) h2 (HA.out.fr h1 id) h1
      exact ⟨h.1, h.2.1, _, h.2.2, rfl, (e8_d8 hl8 hx).2⟩)
    clear hPO hst
    go_enter Tryd.func80, Tryd.ntmps80
    go_wp2_with (refine Calls.mono HC1.out ?_; rintro e W1 ⟨hF, v, rfl, hI1, ⟨a1, b1, o1, c1, rfl, hby, hbl⟩, hll⟩; obtain ⟨ea, hblt⟩ := hby.at_ (by rw [hll]; omega); subst ea; rw [hll] at hby; have HBY := Lib.hid hby; have q1 := (HA.out.fr hF id).cell; have q2 := (HA.out.fr hF id).free; have hbd : (∀ x ∈ l, x < 256) := (fun x hx => (show BV W1 (.slice (some ⟨b1, o1, none⟩) l.length c1) l from ⟨_, b1, o1, c1, rfl, by rw [hll]; exact hby⟩).ok x hx); have HE := Lib.hid (HEND.out W1 hF hI1 hbd); have HBD := Lib.hid hbd; clear hF hI1 hby hbl hblt hbd; try rw [hll])
    clear HC1 HEND
    have HL := Lib.hid hl8
    clear hl8 ht
    go_upto_region 2 with fail
    go_loopw [4, 6, 10] (fun n x k wr => ∃ i : Nat, i ≤ 8 ∧ wr = W1 ∧ k = .int .i64 i ∧ n = .int .u64 (accB l i : Nat)) (fun _ _ k _ => 8 - (intOf k).toNat)
    case atStart => exact ⟨0, by omega, rfl, rfl, rfl⟩
    case round =>
      obtain ⟨i, hi, rfl, rfl, rfl⟩ := hrel
      by_cases hlt : i < 8
      · skip
        have b9 : (i < 8) = True := eq_true hlt
        have ww5 : IntKind.i64.wrap ((i : Int) + 1) = (i : Int) + 1 := IntWalk.i64_in _ (by omega)
        obtain ⟨x, hx⟩ : ∃ x, x = gB l i := ⟨_, rfl⟩
        have hx2 : x < 256 := by rw [hx]; exact HBD.out _ (List.mem_of_getElem? (gB_lt (by rw [HL.out]; exact hlt)))
        have c9 : wr.cell? ⟨b1, o1 + i, none⟩ = some (.int .u8 (x : Nat)) := by rw [hx]; exact HBY.out.cell i hlt
        have hA7 := accB_seven HBD.out (i := i) (by rw [HL.out]; omega) (by omega)
        have hsu := accB_succ (l := l) (i := i) (by rw [HL.out]; exact hlt)
        rw [← hx] at hsu
        obtain ⟨A, hA⟩ : ∃ A, A = accB l i := ⟨_, rfl⟩
        rw [← hA] at hA7 hsu ⊢
        have s1 : IntKind.u64.wrap ((A : Int) * 256) = ((A * 256 : Nat) : Int) := by rw [wrap_u64']; unfold u64; omega
        have s2 : IntKind.u64.wrap (x : Int) = (x : Int) := by rw [wrap_u64']; unfold u64; omega
        have s3 := or_low hA7 hx2
        rw [← hsu] at s3
        have HSU := Lib.hid hsu
        clear hA hsu hx hA7 hx2
        go_wp2_with fail
        go_roundw
        case measure => first | (simp [intOf]; done) | (simp [intOf]; omega)
        case rel => exact ⟨i + 1, by omega, by first | rfl | trivial, by go_num, by first | rfl | (congr 1)⟩
      · skip
        obtain rfl : i = 8 := by omega
        have hlt : accB l 8 < 18446744073709551616 := by
          have := accB_lt HBD.out (i := 8) (by rw [HL.out]; omega)
          exact this
        have hv : IntKind.i64.wrap ((accB l 8 : Nat) : Int) = d8 l := by
          rw [wrap_i64_acc hlt]
          unfold d8 accB
          rw [List.take_of_length_le (by rw [HL.out]; omega)]
        obtain ⟨A, hA⟩ : ∃ A, A = accB l 8 := ⟨_, rfl⟩
        rw [← hA] at hv ⊢
        clear hlt hA
        go_wp2_with fail
        go_end0
        exact ⟨rfl, HE.out⟩
end


section
variable {y lo : Nat} {bs : List Nat}
set_option maxRecDepth 100000 in
set_option maxHeartbeats 8000000 in
theorem eye_count : CntC (eyeS y lo bs) 85 := by
  intro W s n least hI hP
  obtain ⟨N, hN⟩ : ∃ N, N = W.heap.size := ⟨_, rfl⟩
  obtain ⟨W1, hW1⟩ : ∃ X, X = W.alloc (.cells #[.int .i64 (n : Nat)] 3) := ⟨_, rfl⟩
  have hB1 : Below W.heap.size W W1 := by rw [hW1]; exact alloc_b _ _
  have hb1 : Blk W1 N #[.int .i64 (n : Nat)] 3 := by rw [hW1, hN]; exact blk_new _ _ _
  have hI1 := eye_below hI hB1
  have hpr : (eyeS y lo bs).Pr N 3 := eye_new hI (by omega)
  have hA1 : At (eyeS y lo bs) W1 3 N 0 (.int .i64 (n : Nat)) := .inr ⟨_, hb1, hpr, by decide, rfl⟩
  obtain ⟨hp1, hp2, hp3⟩ : n ≤ 9223372036854775807 ∧ 0 < least ∧ least ≤ 1000 := hP
  have hF1 := below_frA (H := eyeS y lo bs) hB1 (eye_lo hI) (fun _ _ _ => False)
  have hnum := eye_number W1 s 3 N 0 (.i (n : Nat)) hI1 ⟨_, hA1, rfl, by omega, by omega⟩ (fun h => by cases h)
  have hsub : ∀ W', FrA (eyeS y lo bs) (cell1 3 N 0) W1 W' → FrA (eyeS y lo bs) (fun _ _ _ => False) W W' := fun W' h => hF1.trans2 h (fun _ _ _ h => h) (fun _ t q j hq h => by have := h.2.1; omega)
  have HSUB := Lib.hid hsub
  have HNE : Hid (N ≠ y) := Lib.hid hpr.1
  obtain ⟨vb, hb, hbl, hs, hly, hlen⟩ := hI
  have q1 : W1.cell? ⟨y, 1, none⟩ = some (.int .i64 (s : Nat)) := cell_at (hb.step hB1) 1
  have y0 : y < W1.heap.size := Nat.lt_of_lt_of_le hb.lt hB1.size
  show Calls Tryd.prog _ #[.pointer (some ⟨y, 0, none⟩), .int .i64 (n : Nat), .int .i64 (least : Nat)] W _
  have HHL := Lib.hid (And.intro hs (And.intro hly hlen))
  have HLS := Lib.hid (And.intro hp2 hp3)
  clear hI1 hpr hA1 hF1 hsub hb1 hB1 hb hbl hs hly hlen hp1 y0
  rcases ht : numB bs s with a | m
  · have hct : (eyeS y lo bs).cnt s n least = .error a := by
      show (match cntB bs s least with | .error a => Except.error a | .ok k => .ok (s + 8, k)) = _
      unfold cntB
      rw [ht]
    rw [hct]
    have hst : (eyeS y lo bs).step .num s (.i (n : Nat)) = .error a := by
      show (match (match numB bs s with | .ok n => Except.ok (WD.i n, s + 8) | .error e => .error e) with | .error a => Except.error a | .ok (x, s2) => .ok (s2, x)) = _
      rw [ht]
    have HC1 := Lib.hid (show Calls Tryd.prog 80 #[.pointer (some ⟨y, 0, none⟩), .pointer (some ⟨N, 0, none⟩)] W1 (fun e W' => FrA (eyeS y lo bs) (cell1 3 N 0) W1 W' ∧ e = .panicked [{ v := refV a, recovered := false }]) from endS_err hnum hst)
    clear hnum hst hct ht
    go_enter Tryd.func85, Tryd.ntmps85
    go_upto_region 1 with fail
    rw [← hN, ← hW1]
    clear hN hW1
    go_wp2_with (refine Calls.mono HC1.out ?_; rintro e W2 ⟨hF, rfl⟩)
    exact (show _ ∧ _ ∧ _ from ⟨rfl, HSUB.out _ hF, rfl⟩)
  · have hst : (eyeS y lo bs).step .num s (.i (n : Nat)) = .ok (s + 8, .i m) := by
      show (match (match numB bs s with | .ok n => Except.ok (WD.i n, s + 8) | .error e => .error e) with | .error a => Except.error a | .ok (x, s2) => .ok (s2, x)) = _
      rw [ht]
    have HC1 := Lib.hid (show Calls Tryd.prog 80 #[.pointer (some ⟨y, 0, none⟩), .pointer (some ⟨N, 0, none⟩)] W1 (fun e W' => FrA (eyeS y lo bs) (cell1 3 N 0) W1 W' ∧ e = .returned (.tuple #[]) ∧ (eyeS y lo bs).In W' (s + 8) ∧ Dp (eyeS y lo bs) W' .num 3 N 0 (.i m)) from endS_ok hnum hst)
    clear hnum hst
    obtain ⟨s2, hs2⟩ : ∃ s2, s2 = s + 8 := ⟨_, rfl⟩
    rw [← hs2] at HC1
    obtain ⟨ln, hln⟩ : ∃ ln, ln = bs.length := ⟨_, rfl⟩
    obtain ⟨D, hD⟩ : ∃ D, D = ln - s2 := ⟨_, rfl⟩
    obtain ⟨Q, hQ⟩ : ∃ Q, Q = D / least := ⟨_, rfl⟩
    have hcb : cntB bs s least = if 0 ≤ m ∧ m ≤ (Q : Int) then .ok m.toNat else .error s := by
      unfold cntB
      rw [ht, hQ, hD, hs2, hln]
    have HCB := Lib.hid hcb
    have h8 : 8 + s ≤ bs.length := by
      unfold numB at ht
      rcases h : takeB bs s 8 with a | l
      · rw [h] at ht; cases ht
      · exact (takeB_ok h).1
    have h8' : s2 ≤ ln ∧ ln ≤ 1048576 := by have := HHL.out.2.2; omega
    have hDl : (D : Int) = (ln : Int) - (s2 : Int) := by omega
    have w1 : IntKind.i64.wrap ((ln : Int) - (s2 : Int)) = (D : Int) := by rw [IntWalk.i64_in _ (by omega)]; omega
    have hQD : Q ≤ D := by rw [hQ]; exact Nat.div_le_self _ _
    have w2 : IntKind.i64.wrap ((D : Int).tdiv (least : Int)) = (Q : Int) := by
      rw [← Int.ofNat_tdiv, ← hQ]
      exact IntWalk.i64_in _ (by omega)
    have w2' : IntKind.i64.wrap ((D : Int) / (least : Int)) = (Q : Int) := by
      show IntKind.i64.wrap ((D / least : Nat) : Int) = _
      rw [← hQ]
      exact IntWalk.i64_in _ (by omega)
    have hz : (least = 0) = False := eq_false (by omega)
    have HQ := Lib.hid (And.intro h8' hQD)
    have HLN := Lib.hid hln
    have HS2 : Hid (s + 8 = s2) := Lib.hid hs2.symm
    clear ht hcb hs2 hln hD hQ h8 h8' hDl hQD hp2 hp3
    by_cases hm0 : m < 0
    · skip
      have hct : (eyeS y lo bs).cnt s n least = .error s := by
        show (match cntB bs s least with | .error a => Except.error a | .ok k => .ok (s + 8, k)) = _
        rw [HCB.out, if_neg (by omega)]
      rw [hct]
      clear hct
      have b0 : (m < 0) = True := eq_true hm0
      go_enter Tryd.func85, Tryd.ntmps85
      go_upto_region 1 with fail
      rw [← hN, ← hW1]
      clear hN hW1
      go_wp2_with (refine Calls.mono HC1.out ?_; rintro e W2 ⟨hF, rfl, hI2, vm, hAm, hvm⟩; obtain rfl := hvm.1; have HAm := Lib.hid hAm; have HI2 := Lib.hid hI2; have HF := Lib.hid hF; clear hF hI2 hAm hvm)
      have hbe : ∃ a c, Blk W2 y #[.slice a ln c, .int .i64 (s2 : Nat)] 148 := by
        obtain ⟨v, h1, ⟨a, b, o, c, rfl, _⟩, _⟩ := HI2.out
        exact ⟨a, c, by rw [HLN.out]; exact h1⟩
      obtain ⟨a, c, hbe⟩ := hbe
      have HBE := Lib.hid hbe
      have HFD := Lib.hid ((HSUB.out _ HF.out).trans (below_frA (H := eyeS y lo bs) (drew_b W2) (eye_lo HI2.out) (fun _ _ _ => False)) (fun _ _ _ h => h) (fun _ _ _ h => h) (C := fun _ _ _ => False))
      have HAD := Lib.hid (HAm.out.fr (below_frA (H := eyeS y lo bs) (drew_b W2) (eye_lo HI2.out) (fun _ _ _ => False)) id)
      have HID := Lib.hid (eye_below HI2.out (drew_b W2))
      have qn : W2.drew.cell? ⟨N, 0, none⟩ = some (.int .i64 m) := HAD.out.cell
      clear hbe HC1 q1
      go_upto_region 3 with fail
      refine wp_region_held_drew (S := fun X => X.cell? ⟨N, 0, none⟩ = some (.int .i64 m) ∧ X.cell? ⟨y, 0, none⟩ = some (.slice a ln c) ∧ X.cell? ⟨y, 1, none⟩ = some (.int .i64 (s2 : Nat))) (by kernel_rfl) ⟨HAD.out.cell, cell_at (HBE.out.step (drew_b W2)) 0, cell_at (HBE.out.step (drew_b W2)) 1⟩ (fun hHeld => ?_)
      ((refine wpAnyH_take (i := 0) (v := ?_) (by (simp only [List.getElem?_toArray, List.getElem?_cons_succ, List.getElem?_cons_zero]); rfl) (by kernel_rfl) (by kernel_rfl) (by kernel_rfl) (by exact fun _ _ _ h => h) (Or.inl ⟨by rfl, ?_⟩) (by assumption) ?_); rotate_left; focus (intro wS hSw; (try dsimp only at hSw); go_simp; first | done | with_reducible rfl); try simp only [Act.put, List.setIfInBounds_toArray, List.set_cons_zero, List.set_cons_succ])
      ((refine wpAnyH_take (i := 1) (v := ?_) (by (simp only [List.getElem?_toArray, List.getElem?_cons_succ, List.getElem?_cons_zero]); rfl) (by kernel_rfl) (by kernel_rfl) (by kernel_rfl) (by exact fun _ _ _ h => h) (Or.inl ⟨by rfl, ?_⟩) (by assumption) ?_); rotate_left; focus (intro wS hSw; (try dsimp only at hSw); go_simp; first | done | with_reducible rfl); try simp only [Act.put, List.setIfInBounds_toArray, List.set_cons_zero, List.set_cons_succ])
      ((refine wpAnyH_take (i := 2) (v := ?_) (by (simp only [List.getElem?_toArray, List.getElem?_cons_succ, List.getElem?_cons_zero]); rfl) (by kernel_rfl) (by kernel_rfl) (by kernel_rfl) (by exact fun _ _ _ h => h) (Or.inl ⟨by rfl, ?_⟩) (by assumption) ?_); rotate_left; focus (intro wS hSw; (try dsimp only at hSw); go_simp; first | done | with_reducible rfl); try simp only [Act.put, List.setIfInBounds_toArray, List.set_cons_zero, List.set_cons_succ])
      ((refine wpAnyH_take (i := 3) (v := undef) (by (simp only [List.getElem?_toArray, List.getElem?_cons_succ, List.getElem?_cons_zero]); rfl) (by kernel_rfl) (by kernel_rfl) (by kernel_rfl) (by exact fun _ _ _ h => h) (Or.inr ⟨by (go_simp; try (intro hh; cases hh)), rfl⟩) (by assumption) ?_); try simp only [Act.put, List.setIfInBounds_toArray, List.set_cons_zero, List.set_cons_succ])
      ((refine wpAnyH_take (i := 4) (v := undef) (by (simp only [List.getElem?_toArray, List.getElem?_cons_succ, List.getElem?_cons_zero]); rfl) (by kernel_rfl) (by kernel_rfl) (by kernel_rfl) (by exact fun _ _ _ h => h) (Or.inr ⟨by (go_simp; try (intro hh; cases hh)), rfl⟩) (by assumption) ?_); try simp only [Act.put, List.setIfInBounds_toArray, List.set_cons_zero, List.set_cons_succ])
      ((refine wpAnyH_take (i := 5) (v := undef) (by (simp only [List.getElem?_toArray, List.getElem?_cons_succ, List.getElem?_cons_zero]); rfl) (by kernel_rfl) (by kernel_rfl) (by kernel_rfl) (by exact fun _ _ _ h => h) (Or.inr ⟨by (go_simp; try (intro hh; cases hh)), rfl⟩) (by assumption) ?_); try simp only [Act.put, List.setIfInBounds_toArray, List.set_cons_zero, List.set_cons_succ])
      ((refine wpAnyH_take (i := 6) (v := undef) (by (simp only [List.getElem?_toArray, List.getElem?_cons_succ, List.getElem?_cons_zero]); rfl) (by kernel_rfl) (by kernel_rfl) (by kernel_rfl) (by exact fun _ _ _ h => h) (Or.inr ⟨by (go_simp; try (intro hh; cases hh)), rfl⟩) (by assumption) ?_); try simp only [Act.put, List.setIfInBounds_toArray, List.set_cons_zero, List.set_cons_succ])
      ((refine wpAnyH_take (i := 7) (v := undef) (by (simp only [List.getElem?_toArray, List.getElem?_cons_succ, List.getElem?_cons_zero]); rfl) (by kernel_rfl) (by kernel_rfl) (by kernel_rfl) (by exact fun _ _ _ h => h) (Or.inr ⟨by (go_simp; try (intro hh; cases hh)), rfl⟩) (by assumption) ?_); try simp only [Act.put, List.setIfInBounds_toArray, List.set_cons_zero, List.set_cons_succ])
      ((refine wpAnyH_take (i := 8) (v := undef) (by (simp only [List.getElem?_toArray, List.getElem?_cons_succ, List.getElem?_cons_zero]); rfl) (by kernel_rfl) (by kernel_rfl) (by kernel_rfl) (by exact fun _ _ _ h => h) (Or.inr ⟨by (go_simp; try (intro hh; cases hh)), rfl⟩) (by assumption) ?_); try simp only [Act.put, List.setIfInBounds_toArray, List.set_cons_zero, List.set_cons_succ])
      ((refine wpAnyH_take (i := 9) (v := undef) (by (simp only [List.getElem?_toArray, List.getElem?_cons_succ, List.getElem?_cons_zero]); rfl) (by kernel_rfl) (by kernel_rfl) (by kernel_rfl) (by exact fun _ _ _ h => h) (Or.inr ⟨by (go_simp; try (intro hh; cases hh)), rfl⟩) (by assumption) ?_); try simp only [Act.put, List.setIfInBounds_toArray, List.set_cons_zero, List.set_cons_succ])
      ((refine wpAnyH_take (i := 10) (v := undef) (by (simp only [List.getElem?_toArray, List.getElem?_cons_succ, List.getElem?_cons_zero]); rfl) (by kernel_rfl) (by kernel_rfl) (by kernel_rfl) (by exact fun _ _ _ h => h) (Or.inr ⟨by (go_simp; try (intro hh; cases hh)), rfl⟩) (by assumption) ?_); try simp only [Act.put, List.setIfInBounds_toArray, List.set_cons_zero, List.set_cons_succ])
      ((refine wpAnyH_take (i := 11) (v := undef) (by (simp only [List.getElem?_toArray, List.getElem?_cons_succ, List.getElem?_cons_zero]); rfl) (by kernel_rfl) (by kernel_rfl) (by kernel_rfl) (by exact fun _ _ _ h => h) (Or.inr ⟨by (go_simp; try (intro hh; cases hh)), rfl⟩) (by assumption) ?_); try simp only [Act.put, List.setIfInBounds_toArray, List.set_cons_zero, List.set_cons_succ])
      ((refine wpAnyH_take (i := 12) (v := undef) (by (simp only [List.getElem?_toArray, List.getElem?_cons_succ, List.getElem?_cons_zero]); rfl) (by kernel_rfl) (by kernel_rfl) (by kernel_rfl) (by exact fun _ _ _ h => h) (Or.inr ⟨by (go_simp; try (intro hh; cases hh)), rfl⟩) (by assumption) ?_); try simp only [Act.put, List.setIfInBounds_toArray, List.set_cons_zero, List.set_cons_succ])
      ((refine wpAnyH_take (i := 13) (v := undef) (by (simp only [List.getElem?_toArray, List.getElem?_cons_succ, List.getElem?_cons_zero]); rfl) (by kernel_rfl) (by kernel_rfl) (by kernel_rfl) (by exact fun _ _ _ h => h) (Or.inr ⟨by (go_simp; try (intro hh; cases hh)), rfl⟩) (by assumption) ?_); try simp only [Act.put, List.setIfInBounds_toArray, List.set_cons_zero, List.set_cons_succ])
      ((refine wpAnyH_take (i := 14) (v := undef) (by (simp only [List.getElem?_toArray, List.getElem?_cons_succ, List.getElem?_cons_zero]); rfl) (by kernel_rfl) (by kernel_rfl) (by kernel_rfl) (by exact fun _ _ _ h => h) (Or.inr ⟨by (go_simp; try (intro hh; cases hh)), rfl⟩) (by assumption) ?_); try simp only [Act.put, List.setIfInBounds_toArray, List.set_cons_zero, List.set_cons_succ])
      ((refine wpAnyH_take (i := 15) (v := undef) (by (simp only [List.getElem?_toArray, List.getElem?_cons_succ, List.getElem?_cons_zero]); rfl) (by kernel_rfl) (by kernel_rfl) (by kernel_rfl) (by exact fun _ _ _ h => h) (Or.inr ⟨by (go_simp; try (intro hh; cases hh)), rfl⟩) (by assumption) ?_); try simp only [Act.put, List.setIfInBounds_toArray, List.set_cons_zero, List.set_cons_succ])
      ((refine wpAnyH_take (i := 16) (v := undef) (by (simp only [List.getElem?_toArray, List.getElem?_cons_succ, List.getElem?_cons_zero]); rfl) (by kernel_rfl) (by kernel_rfl) (by kernel_rfl) (by exact fun _ _ _ h => h) (Or.inr ⟨by (go_simp; try (intro hh; cases hh)), rfl⟩) (by assumption) ?_); try simp only [Act.put, List.setIfInBounds_toArray, List.set_cons_zero, List.set_cons_succ])
      ((refine wpAnyH_take (i := 17) (v := ?_) (by (simp only [List.getElem?_toArray, List.getElem?_cons_succ, List.getElem?_cons_zero]); rfl) (by kernel_rfl) (by kernel_rfl) (by kernel_rfl) (by exact fun _ _ _ h => h) (Or.inl ⟨by rfl, ?_⟩) (by assumption) ?_); rotate_left; focus (intro wS hSw; (try dsimp only at hSw); go_simp; first | done | with_reducible rfl); try simp only [Act.put, List.setIfInBounds_toArray, List.set_cons_zero, List.set_cons_succ])
      refine wpAnyH_done (by kernel_rfl) ?_ _
      try simp only [Act.put, List.setIfInBounds_toArray, List.set_cons_zero, List.set_cons_succ]
      go_wp2_with fail
      exact (show _ ∧ _ ∧ _ from ⟨rfl, HFD.out, rfl⟩)
    · skip
      have b0 : (m < 0) = False := eq_false hm0
      by_cases hmq : m ≤ (Q : Int)
      · skip
        have hct : (eyeS y lo bs).cnt s n least = .ok (s2, m.toNat) := by
          show (match cntB bs s least with | .error a => Except.error a | .ok k => .ok (s + 8, k)) = _
          rw [HCB.out, if_pos ⟨by omega, by omega⟩, HS2.out]
        rw [hct]
        clear hct
        have HMN : Hid (m = ((m.toNat : Nat) : Int)) := Lib.hid (by omega)
        have b1 : ((Q : Int) < m) = False := eq_false (by omega)
        go_enter Tryd.func85, Tryd.ntmps85
        go_upto_region 1 with fail
        rw [← hN, ← hW1]
        clear hN hW1
        go_wp2_with (refine Calls.mono HC1.out ?_; rintro e W2 ⟨hF, rfl, hI2, vm, hAm, hvm⟩; obtain rfl := hvm.1; have HAm := Lib.hid hAm; have HI2 := Lib.hid hI2; have HF := Lib.hid hF; clear hF hI2 hAm hvm)
        have hbe : ∃ a c, Blk W2 y #[.slice a ln c, .int .i64 (s2 : Nat)] 148 := by
          obtain ⟨v, h1, ⟨a, b, o, c, rfl, _⟩, _⟩ := HI2.out
          exact ⟨a, c, by rw [HLN.out]; exact h1⟩
        obtain ⟨a, c, hbe⟩ := hbe
        have HBE := Lib.hid hbe
        have HFD := Lib.hid ((HSUB.out _ HF.out).trans (below_frA (H := eyeS y lo bs) (drew_b W2) (eye_lo HI2.out) (fun _ _ _ => False)) (fun _ _ _ h => h) (fun _ _ _ h => h) (C := fun _ _ _ => False))
        have HAD := Lib.hid (HAm.out.fr (below_frA (H := eyeS y lo bs) (drew_b W2) (eye_lo HI2.out) (fun _ _ _ => False)) id)
        have HID := Lib.hid (eye_below HI2.out (drew_b W2))
        have qn : W2.drew.cell? ⟨N, 0, none⟩ = some (.int .i64 m) := HAD.out.cell
        clear hbe HC1 q1
        go_upto_region 3 with fail
        refine wp_region_held_drew (S := fun X => X.cell? ⟨N, 0, none⟩ = some (.int .i64 m) ∧ X.cell? ⟨y, 0, none⟩ = some (.slice a ln c) ∧ X.cell? ⟨y, 1, none⟩ = some (.int .i64 (s2 : Nat))) (by kernel_rfl) ⟨HAD.out.cell, cell_at (HBE.out.step (drew_b W2)) 0, cell_at (HBE.out.step (drew_b W2)) 1⟩ (fun hHeld => ?_)
        ((refine wpAnyH_take (i := 0) (v := ?_) (by (simp only [List.getElem?_toArray, List.getElem?_cons_succ, List.getElem?_cons_zero]); rfl) (by kernel_rfl) (by kernel_rfl) (by kernel_rfl) (by exact fun _ _ _ h => h) (Or.inl ⟨by rfl, ?_⟩) (by assumption) ?_); rotate_left; focus (intro wS hSw; (try dsimp only at hSw); go_simp; first | done | with_reducible rfl); try simp only [Act.put, List.setIfInBounds_toArray, List.set_cons_zero, List.set_cons_succ])
        ((refine wpAnyH_take (i := 1) (v := ?_) (by (simp only [List.getElem?_toArray, List.getElem?_cons_succ, List.getElem?_cons_zero]); rfl) (by kernel_rfl) (by kernel_rfl) (by kernel_rfl) (by exact fun _ _ _ h => h) (Or.inl ⟨by rfl, ?_⟩) (by assumption) ?_); rotate_left; focus (intro wS hSw; (try dsimp only at hSw); go_simp; first | done | with_reducible rfl); try simp only [Act.put, List.setIfInBounds_toArray, List.set_cons_zero, List.set_cons_succ])
        ((refine wpAnyH_take (i := 2) (v := ?_) (by (simp only [List.getElem?_toArray, List.getElem?_cons_succ, List.getElem?_cons_zero]); rfl) (by kernel_rfl) (by kernel_rfl) (by kernel_rfl) (by exact fun _ _ _ h => h) (Or.inl ⟨by rfl, ?_⟩) (by assumption) ?_); rotate_left; focus (intro wS hSw; (try dsimp only at hSw); go_simp; first | done | with_reducible rfl); try simp only [Act.put, List.setIfInBounds_toArray, List.set_cons_zero, List.set_cons_succ])
        ((refine wpAnyH_take (i := 3) (v := ?_) (by (simp only [List.getElem?_toArray, List.getElem?_cons_succ, List.getElem?_cons_zero]); rfl) (by kernel_rfl) (by kernel_rfl) (by kernel_rfl) (by exact fun _ _ _ h => h) (Or.inl ⟨by (go_simp; try rfl), ?_⟩) (by assumption) ?_); rotate_left; focus (intro wS hSw; (try dsimp only at hSw); go_simp; first | done | with_reducible rfl); try simp only [Act.put, List.setIfInBounds_toArray, List.set_cons_zero, List.set_cons_succ])
        ((refine wpAnyH_take (i := 4) (v := ?_) (by (simp only [List.getElem?_toArray, List.getElem?_cons_succ, List.getElem?_cons_zero]); rfl) (by kernel_rfl) (by kernel_rfl) (by kernel_rfl) (by exact fun _ _ _ h => h) (Or.inl ⟨by (go_simp; try rfl), ?_⟩) (by assumption) ?_); rotate_left; focus (intro wS hSw; (try dsimp only at hSw); go_simp; first | done | with_reducible rfl); try simp only [Act.put, List.setIfInBounds_toArray, List.set_cons_zero, List.set_cons_succ])
        ((refine wpAnyH_take (i := 5) (v := ?_) (by (simp only [List.getElem?_toArray, List.getElem?_cons_succ, List.getElem?_cons_zero]); rfl) (by kernel_rfl) (by kernel_rfl) (by kernel_rfl) (by exact fun _ _ _ h => h) (Or.inl ⟨by (go_simp; try rfl), ?_⟩) (by assumption) ?_); rotate_left; focus (intro wS hSw; (try dsimp only at hSw); go_simp; first | done | with_reducible rfl); try simp only [Act.put, List.setIfInBounds_toArray, List.set_cons_zero, List.set_cons_succ])
        ((refine wpAnyH_take (i := 6) (v := ?_) (by (simp only [List.getElem?_toArray, List.getElem?_cons_succ, List.getElem?_cons_zero]); rfl) (by kernel_rfl) (by kernel_rfl) (by kernel_rfl) (by exact fun _ _ _ h => h) (Or.inl ⟨by (go_simp; try rfl), ?_⟩) (by assumption) ?_); rotate_left; focus (intro wS hSw; (try dsimp only at hSw); go_simp; first | done | with_reducible rfl); try simp only [Act.put, List.setIfInBounds_toArray, List.set_cons_zero, List.set_cons_succ])
        ((refine wpAnyH_take (i := 7) (v := ?_) (by (simp only [List.getElem?_toArray, List.getElem?_cons_succ, List.getElem?_cons_zero]); rfl) (by kernel_rfl) (by kernel_rfl) (by kernel_rfl) (by exact fun _ _ _ h => h) (Or.inl ⟨by (go_simp; try rfl), ?_⟩) (by assumption) ?_); rotate_left; focus (intro wS hSw; (try dsimp only at hSw); go_simp; first | done | with_reducible rfl); try simp only [Act.put, List.setIfInBounds_toArray, List.set_cons_zero, List.set_cons_succ])
        ((refine wpAnyH_take (i := 8) (v := ?_) (by (simp only [List.getElem?_toArray, List.getElem?_cons_succ, List.getElem?_cons_zero]); rfl) (by kernel_rfl) (by kernel_rfl) (by kernel_rfl) (by exact fun _ _ _ h => h) (Or.inl ⟨by (go_simp; try rfl), ?_⟩) (by assumption) ?_); rotate_left; focus (intro wS hSw; (try dsimp only at hSw); go_simp; first | done | with_reducible rfl); try simp only [Act.put, List.setIfInBounds_toArray, List.set_cons_zero, List.set_cons_succ])
        ((refine wpAnyH_take (i := 9) (v := ?_) (by (simp only [List.getElem?_toArray, List.getElem?_cons_succ, List.getElem?_cons_zero]); rfl) (by kernel_rfl) (by kernel_rfl) (by kernel_rfl) (by exact fun _ _ _ h => h) (Or.inl ⟨by (go_simp; try rfl), ?_⟩) (by assumption) ?_); rotate_left; focus (intro wS hSw; (try dsimp only at hSw); go_simp; first | done | with_reducible rfl); try simp only [Act.put, List.setIfInBounds_toArray, List.set_cons_zero, List.set_cons_succ])
        ((refine wpAnyH_take (i := 10) (v := ?_) (by (simp only [List.getElem?_toArray, List.getElem?_cons_succ, List.getElem?_cons_zero]); rfl) (by kernel_rfl) (by kernel_rfl) (by kernel_rfl) (by exact fun _ _ _ h => h) (Or.inl ⟨by (go_simp; try rfl), ?_⟩) (by assumption) ?_); rotate_left; focus (intro wS hSw; (try dsimp only at hSw); go_simp; first | done | with_reducible rfl); try simp only [Act.put, List.setIfInBounds_toArray, List.set_cons_zero, List.set_cons_succ])
        ((refine wpAnyH_take (i := 11) (v := ?_) (by (simp only [List.getElem?_toArray, List.getElem?_cons_succ, List.getElem?_cons_zero]); rfl) (by kernel_rfl) (by kernel_rfl) (by kernel_rfl) (by exact fun _ _ _ h => h) (Or.inl ⟨by (go_simp; try rfl), ?_⟩) (by assumption) ?_); rotate_left; focus (intro wS hSw; (try dsimp only at hSw); go_simp; first | done | with_reducible rfl); try simp only [Act.put, List.setIfInBounds_toArray, List.set_cons_zero, List.set_cons_succ])
        ((refine wpAnyH_take (i := 12) (v := ?_) (by (simp only [List.getElem?_toArray, List.getElem?_cons_succ, List.getElem?_cons_zero]); rfl) (by kernel_rfl) (by kernel_rfl) (by kernel_rfl) (by exact fun _ _ _ h => h) (Or.inl ⟨by (go_simp; try rfl), ?_⟩) (by assumption) ?_); rotate_left; focus (intro wS hSw; (try dsimp only at hSw); go_simp; first | done | with_reducible rfl); try simp only [Act.put, List.setIfInBounds_toArray, List.set_cons_zero, List.set_cons_succ])
        ((refine wpAnyH_take (i := 13) (v := ?_) (by (simp only [List.getElem?_toArray, List.getElem?_cons_succ, List.getElem?_cons_zero]); rfl) (by kernel_rfl) (by kernel_rfl) (by kernel_rfl) (by exact fun _ _ _ h => h) (Or.inl ⟨by (go_simp; try rfl), ?_⟩) (by assumption) ?_); rotate_left; focus (intro wS hSw; (try dsimp only at hSw); go_simp; first | done | with_reducible rfl); try simp only [Act.put, List.setIfInBounds_toArray, List.set_cons_zero, List.set_cons_succ])
        ((refine wpAnyH_take (i := 14) (v := ?_) (by (simp only [List.getElem?_toArray, List.getElem?_cons_succ, List.getElem?_cons_zero]); rfl) (by kernel_rfl) (by kernel_rfl) (by kernel_rfl) (by exact fun _ _ _ h => h) (Or.inl ⟨by (go_simp; try rfl), ?_⟩) (by assumption) ?_); rotate_left; focus (intro wS hSw; (try dsimp only at hSw); go_simp; first | done | with_reducible rfl); try simp only [Act.put, List.setIfInBounds_toArray, List.set_cons_zero, List.set_cons_succ])
        ((refine wpAnyH_take (i := 15) (v := ?_) (by (simp only [List.getElem?_toArray, List.getElem?_cons_succ, List.getElem?_cons_zero]); rfl) (by kernel_rfl) (by kernel_rfl) (by kernel_rfl) (by exact fun _ _ _ h => h) (Or.inl ⟨by (go_simp; try rfl), ?_⟩) (by assumption) ?_); rotate_left; focus (intro wS hSw; (try dsimp only at hSw); go_simp; first | done | with_reducible rfl); try simp only [Act.put, List.setIfInBounds_toArray, List.set_cons_zero, List.set_cons_succ])
        ((refine wpAnyH_take (i := 16) (v := ?_) (by (simp only [List.getElem?_toArray, List.getElem?_cons_succ, List.getElem?_cons_zero]); rfl) (by kernel_rfl) (by kernel_rfl) (by kernel_rfl) (by exact fun _ _ _ h => h) (Or.inl ⟨by (go_simp; try rfl), ?_⟩) (by assumption) ?_); rotate_left; focus (intro wS hSw; (try dsimp only at hSw); go_simp; first | done | with_reducible rfl); try simp only [Act.put, List.setIfInBounds_toArray, List.set_cons_zero, List.set_cons_succ])
        ((refine wpAnyH_take (i := 17) (v := ?_) (by (simp only [List.getElem?_toArray, List.getElem?_cons_succ, List.getElem?_cons_zero]); rfl) (by kernel_rfl) (by kernel_rfl) (by kernel_rfl) (by exact fun _ _ _ h => h) (Or.inl ⟨by rfl, ?_⟩) (by assumption) ?_); rotate_left; focus (intro wS hSw; (try dsimp only at hSw); go_simp; first | done | with_reducible rfl); try simp only [Act.put, List.setIfInBounds_toArray, List.set_cons_zero, List.set_cons_succ])
        refine wpAnyH_done (by kernel_rfl) ?_ _
        try simp only [Act.put, List.setIfInBounds_toArray, List.set_cons_zero, List.set_cons_succ]
        try go_wp2_with fail
        try rw [Exit.noGoto_ret]
        exact bodyPost_ret (v := .int .i64 m) (by simp [results, Tryd.results85, go_sem]) rfl ⟨HFD.out, by rw [HMN.out]; exact ⟨rfl, HID.out⟩⟩
      · skip
        have hct : (eyeS y lo bs).cnt s n least = .error s := by
          show (match cntB bs s least with | .error a => Except.error a | .ok k => .ok (s + 8, k)) = _
          rw [HCB.out, if_neg (by omega)]
        rw [hct]
        clear hct
        have b1 : ((Q : Int) < m) = True := eq_true (by omega)
        go_enter Tryd.func85, Tryd.ntmps85
        go_upto_region 1 with fail
        rw [← hN, ← hW1]
        clear hN hW1
        go_wp2_with (refine Calls.mono HC1.out ?_; rintro e W2 ⟨hF, rfl, hI2, vm, hAm, hvm⟩; obtain rfl := hvm.1; have HAm := Lib.hid hAm; have HI2 := Lib.hid hI2; have HF := Lib.hid hF; clear hF hI2 hAm hvm)
        have hbe : ∃ a c, Blk W2 y #[.slice a ln c, .int .i64 (s2 : Nat)] 148 := by
          obtain ⟨v, h1, ⟨a, b, o, c, rfl, _⟩, _⟩ := HI2.out
          exact ⟨a, c, by rw [HLN.out]; exact h1⟩
        obtain ⟨a, c, hbe⟩ := hbe
        have HBE := Lib.hid hbe
        have HFD := Lib.hid ((HSUB.out _ HF.out).trans (below_frA (H := eyeS y lo bs) (drew_b W2) (eye_lo HI2.out) (fun _ _ _ => False)) (fun _ _ _ h => h) (fun _ _ _ h => h) (C := fun _ _ _ => False))
        have HAD := Lib.hid (HAm.out.fr (below_frA (H := eyeS y lo bs) (drew_b W2) (eye_lo HI2.out) (fun _ _ _ => False)) id)
        have HID := Lib.hid (eye_below HI2.out (drew_b W2))
        have qn : W2.drew.cell? ⟨N, 0, none⟩ = some (.int .i64 m) := HAD.out.cell
        clear hbe HC1 q1
        go_upto_region 3 with fail
        refine wp_region_held_drew (S := fun X => X.cell? ⟨N, 0, none⟩ = some (.int .i64 m) ∧ X.cell? ⟨y, 0, none⟩ = some (.slice a ln c) ∧ X.cell? ⟨y, 1, none⟩ = some (.int .i64 (s2 : Nat))) (by kernel_rfl) ⟨HAD.out.cell, cell_at (HBE.out.step (drew_b W2)) 0, cell_at (HBE.out.step (drew_b W2)) 1⟩ (fun hHeld => ?_)
        ((refine wpAnyH_take (i := 0) (v := ?_) (by (simp only [List.getElem?_toArray, List.getElem?_cons_succ, List.getElem?_cons_zero]); rfl) (by kernel_rfl) (by kernel_rfl) (by kernel_rfl) (by exact fun _ _ _ h => h) (Or.inl ⟨by rfl, ?_⟩) (by assumption) ?_); rotate_left; focus (intro wS hSw; (try dsimp only at hSw); go_simp; first | done | with_reducible rfl); try simp only [Act.put, List.setIfInBounds_toArray, List.set_cons_zero, List.set_cons_succ])
        ((refine wpAnyH_take (i := 1) (v := ?_) (by (simp only [List.getElem?_toArray, List.getElem?_cons_succ, List.getElem?_cons_zero]); rfl) (by kernel_rfl) (by kernel_rfl) (by kernel_rfl) (by exact fun _ _ _ h => h) (Or.inl ⟨by rfl, ?_⟩) (by assumption) ?_); rotate_left; focus (intro wS hSw; (try dsimp only at hSw); go_simp; first | done | with_reducible rfl); try simp only [Act.put, List.setIfInBounds_toArray, List.set_cons_zero, List.set_cons_succ])
        ((refine wpAnyH_take (i := 2) (v := ?_) (by (simp only [List.getElem?_toArray, List.getElem?_cons_succ, List.getElem?_cons_zero]); rfl) (by kernel_rfl) (by kernel_rfl) (by kernel_rfl) (by exact fun _ _ _ h => h) (Or.inl ⟨by rfl, ?_⟩) (by assumption) ?_); rotate_left; focus (intro wS hSw; (try dsimp only at hSw); go_simp; first | done | with_reducible rfl); try simp only [Act.put, List.setIfInBounds_toArray, List.set_cons_zero, List.set_cons_succ])
        ((refine wpAnyH_take (i := 3) (v := ?_) (by (simp only [List.getElem?_toArray, List.getElem?_cons_succ, List.getElem?_cons_zero]); rfl) (by kernel_rfl) (by kernel_rfl) (by kernel_rfl) (by exact fun _ _ _ h => h) (Or.inl ⟨by (go_simp; try rfl), ?_⟩) (by assumption) ?_); rotate_left; focus (intro wS hSw; (try dsimp only at hSw); go_simp; first | done | with_reducible rfl); try simp only [Act.put, List.setIfInBounds_toArray, List.set_cons_zero, List.set_cons_succ])
        ((refine wpAnyH_take (i := 4) (v := ?_) (by (simp only [List.getElem?_toArray, List.getElem?_cons_succ, List.getElem?_cons_zero]); rfl) (by kernel_rfl) (by kernel_rfl) (by kernel_rfl) (by exact fun _ _ _ h => h) (Or.inl ⟨by (go_simp; try rfl), ?_⟩) (by assumption) ?_); rotate_left; focus (intro wS hSw; (try dsimp only at hSw); go_simp; first | done | with_reducible rfl); try simp only [Act.put, List.setIfInBounds_toArray, List.set_cons_zero, List.set_cons_succ])
        ((refine wpAnyH_take (i := 5) (v := ?_) (by (simp only [List.getElem?_toArray, List.getElem?_cons_succ, List.getElem?_cons_zero]); rfl) (by kernel_rfl) (by kernel_rfl) (by kernel_rfl) (by exact fun _ _ _ h => h) (Or.inl ⟨by (go_simp; try rfl), ?_⟩) (by assumption) ?_); rotate_left; focus (intro wS hSw; (try dsimp only at hSw); go_simp; first | done | with_reducible rfl); try simp only [Act.put, List.setIfInBounds_toArray, List.set_cons_zero, List.set_cons_succ])
        ((refine wpAnyH_take (i := 6) (v := ?_) (by (simp only [List.getElem?_toArray, List.getElem?_cons_succ, List.getElem?_cons_zero]); rfl) (by kernel_rfl) (by kernel_rfl) (by kernel_rfl) (by exact fun _ _ _ h => h) (Or.inl ⟨by (go_simp; try rfl), ?_⟩) (by assumption) ?_); rotate_left; focus (intro wS hSw; (try dsimp only at hSw); go_simp; first | done | with_reducible rfl); try simp only [Act.put, List.setIfInBounds_toArray, List.set_cons_zero, List.set_cons_succ])
        ((refine wpAnyH_take (i := 7) (v := ?_) (by (simp only [List.getElem?_toArray, List.getElem?_cons_succ, List.getElem?_cons_zero]); rfl) (by kernel_rfl) (by kernel_rfl) (by kernel_rfl) (by exact fun _ _ _ h => h) (Or.inl ⟨by (go_simp; try rfl), ?_⟩) (by assumption) ?_); rotate_left; focus (intro wS hSw; (try dsimp only at hSw); go_simp; first | done | with_reducible rfl); try simp only [Act.put, List.setIfInBounds_toArray, List.set_cons_zero, List.set_cons_succ])
        ((refine wpAnyH_take (i := 8) (v := ?_) (by (simp only [List.getElem?_toArray, List.getElem?_cons_succ, List.getElem?_cons_zero]); rfl) (by kernel_rfl) (by kernel_rfl) (by kernel_rfl) (by exact fun _ _ _ h => h) (Or.inl ⟨by (go_simp; try rfl), ?_⟩) (by assumption) ?_); rotate_left; focus (intro wS hSw; (try dsimp only at hSw); go_simp; first | done | with_reducible rfl); try simp only [Act.put, List.setIfInBounds_toArray, List.set_cons_zero, List.set_cons_succ])
        ((refine wpAnyH_take (i := 9) (v := ?_) (by (simp only [List.getElem?_toArray, List.getElem?_cons_succ, List.getElem?_cons_zero]); rfl) (by kernel_rfl) (by kernel_rfl) (by kernel_rfl) (by exact fun _ _ _ h => h) (Or.inl ⟨by (go_simp; try rfl), ?_⟩) (by assumption) ?_); rotate_left; focus (intro wS hSw; (try dsimp only at hSw); go_simp; first | done | with_reducible rfl); try simp only [Act.put, List.setIfInBounds_toArray, List.set_cons_zero, List.set_cons_succ])
        ((refine wpAnyH_take (i := 10) (v := ?_) (by (simp only [List.getElem?_toArray, List.getElem?_cons_succ, List.getElem?_cons_zero]); rfl) (by kernel_rfl) (by kernel_rfl) (by kernel_rfl) (by exact fun _ _ _ h => h) (Or.inl ⟨by (go_simp; try rfl), ?_⟩) (by assumption) ?_); rotate_left; focus (intro wS hSw; (try dsimp only at hSw); go_simp; first | done | with_reducible rfl); try simp only [Act.put, List.setIfInBounds_toArray, List.set_cons_zero, List.set_cons_succ])
        ((refine wpAnyH_take (i := 11) (v := ?_) (by (simp only [List.getElem?_toArray, List.getElem?_cons_succ, List.getElem?_cons_zero]); rfl) (by kernel_rfl) (by kernel_rfl) (by kernel_rfl) (by exact fun _ _ _ h => h) (Or.inl ⟨by (go_simp; try rfl), ?_⟩) (by assumption) ?_); rotate_left; focus (intro wS hSw; (try dsimp only at hSw); go_simp; first | done | with_reducible rfl); try simp only [Act.put, List.setIfInBounds_toArray, List.set_cons_zero, List.set_cons_succ])
        ((refine wpAnyH_take (i := 12) (v := ?_) (by (simp only [List.getElem?_toArray, List.getElem?_cons_succ, List.getElem?_cons_zero]); rfl) (by kernel_rfl) (by kernel_rfl) (by kernel_rfl) (by exact fun _ _ _ h => h) (Or.inl ⟨by (go_simp; try rfl), ?_⟩) (by assumption) ?_); rotate_left; focus (intro wS hSw; (try dsimp only at hSw); go_simp; first | done | with_reducible rfl); try simp only [Act.put, List.setIfInBounds_toArray, List.set_cons_zero, List.set_cons_succ])
        ((refine wpAnyH_take (i := 13) (v := ?_) (by (simp only [List.getElem?_toArray, List.getElem?_cons_succ, List.getElem?_cons_zero]); rfl) (by kernel_rfl) (by kernel_rfl) (by kernel_rfl) (by exact fun _ _ _ h => h) (Or.inl ⟨by (go_simp; try rfl), ?_⟩) (by assumption) ?_); rotate_left; focus (intro wS hSw; (try dsimp only at hSw); go_simp; first | done | with_reducible rfl); try simp only [Act.put, List.setIfInBounds_toArray, List.set_cons_zero, List.set_cons_succ])
        ((refine wpAnyH_take (i := 14) (v := ?_) (by (simp only [List.getElem?_toArray, List.getElem?_cons_succ, List.getElem?_cons_zero]); rfl) (by kernel_rfl) (by kernel_rfl) (by kernel_rfl) (by exact fun _ _ _ h => h) (Or.inl ⟨by (go_simp; try rfl), ?_⟩) (by assumption) ?_); rotate_left; focus (intro wS hSw; (try dsimp only at hSw); go_simp; first | done | with_reducible rfl); try simp only [Act.put, List.setIfInBounds_toArray, List.set_cons_zero, List.set_cons_succ])
        ((refine wpAnyH_take (i := 15) (v := ?_) (by (simp only [List.getElem?_toArray, List.getElem?_cons_succ, List.getElem?_cons_zero]); rfl) (by kernel_rfl) (by kernel_rfl) (by kernel_rfl) (by exact fun _ _ _ h => h) (Or.inl ⟨by (go_simp; try rfl), ?_⟩) (by assumption) ?_); rotate_left; focus (intro wS hSw; (try dsimp only at hSw); go_simp; first | done | with_reducible rfl); try simp only [Act.put, List.setIfInBounds_toArray, List.set_cons_zero, List.set_cons_succ])
        ((refine wpAnyH_take (i := 16) (v := ?_) (by (simp only [List.getElem?_toArray, List.getElem?_cons_succ, List.getElem?_cons_zero]); rfl) (by kernel_rfl) (by kernel_rfl) (by kernel_rfl) (by exact fun _ _ _ h => h) (Or.inl ⟨by (go_simp; try rfl), ?_⟩) (by assumption) ?_); rotate_left; focus (intro wS hSw; (try dsimp only at hSw); go_simp; first | done | with_reducible rfl); try simp only [Act.put, List.setIfInBounds_toArray, List.set_cons_zero, List.set_cons_succ])
        ((refine wpAnyH_take (i := 17) (v := ?_) (by (simp only [List.getElem?_toArray, List.getElem?_cons_succ, List.getElem?_cons_zero]); rfl) (by kernel_rfl) (by kernel_rfl) (by kernel_rfl) (by exact fun _ _ _ h => h) (Or.inl ⟨by rfl, ?_⟩) (by assumption) ?_); rotate_left; focus (intro wS hSw; (try dsimp only at hSw); go_simp; first | done | with_reducible rfl); try simp only [Act.put, List.setIfInBounds_toArray, List.set_cons_zero, List.set_cons_succ])
        refine wpAnyH_done (by kernel_rfl) ?_ _
        try simp only [Act.put, List.setIfInBounds_toArray, List.set_cons_zero, List.set_cons_succ]
        go_wp2_with fail
        exact (show _ ∧ _ ∧ _ from ⟨rfl, HFD.out, rfl⟩)
end
end Go.Proofs.YtiednacpmlilbaaDoor
