/-
  The eye: small, set, truth.
-/
import Derived.Test.YtiednacpmlilbaaDoorWe
namespace Go.Proofs.YtiednacpmlilbaaDoor
open Go.RowKit
set_option linter.unusedSimpArgs false
set_option linter.unusedVariables false

section
variable {y lo : Nat} {bs : List Nat}
theorem wrap_i8 {x : Nat} (h : x < 256) : IntKind.i8.wrap (x : Int) = i8 x := by unfold i8 IntKind.wrap; simp [IntKind.bits, IntKind.signed]; split <;> split <;> omega
set_option maxRecDepth 100000 in
set_option maxHeartbeats 8000000 in
theorem eye_small : StepC (eyeS y lo bs) .small 81 := by
  intro W s ty g j d hI hD hP
  obtain ⟨x0, hA, -⟩ := hD
  have HTK := Lib.hid (eye_take W s 1 hI (by omega))
  have HA := Lib.hid hA
  clear hA hI hP
  rcases ht : takeB bs s 1 with a | l
  · have hst : (eyeS y lo bs).step .small s d = .error a := by
      show (match (match takeB bs s 1 with | .ok l => Except.ok (WD.i (i8 (l.headD 0)), s + 1) | .error e => .error e) with | .error a => Except.error a | .ok (x, s2) => .ok (s2, x)) = _
      rw [ht]
    rw [hst]
    have HC1 := Lib.hid (show Calls Tryd.prog 112 #[.pointer (some ⟨y, 0, none⟩), .int .i64 1] W (fun e W' => FrA (eyeS y lo bs) (fun _ _ _ => False) W W' ∧ e = .panicked [{ v := refV a, recovered := false }]) from by have := HTK.out; rw [ht] at this; exact this)
    show Calls Tryd.prog _ #[.pointer (some ⟨y, 0, none⟩), .pointer (some ⟨g, j, none⟩)] W _
    clear hst HTK ht
    go_enter Tryd.func81, Tryd.ntmps81
    go_wp2_with (refine Calls.mono HC1.out ?_; rintro e W1 ⟨hF, rfl⟩)
    exact (show _ ∧ EndS (eyeS y lo bs) (cell1 ty g j) W _ _ _ _ from ⟨rfl, hF.mono (fun _ _ _ h => h.elim), rfl⟩)
  · have HC1 := Lib.hid (show Calls Tryd.prog 112 #[.pointer (some ⟨y, 0, none⟩), .int .i64 1] W (fun e W' => FrA (eyeS y lo bs) (fun _ _ _ => False) W W' ∧ ∃ v, e = .returned v ∧ (eyeS y lo bs).In W' (s + 1) ∧ BL lo W' v l ∧ l.length = 1) from by have := HTK.out; rw [ht] at this; exact this)
    clear HTK
    have hl1 : l.length = 1 := (takeB_ok ht).2.1
    obtain ⟨x, rfl⟩ := len1 hl1
    obtain ⟨PO, hPO⟩ : ∃ PO : World → Prop, PO = fun W' => FrA (eyeS y lo bs) (cell1 ty g j) W W' ∧ (eyeS y lo bs).In W' (s + 1) ∧ Dp (eyeS y lo bs) W' .small ty g j (.i (i8 x)) := ⟨_, rfl⟩
    have hst : (eyeS y lo bs).step .small s d = .ok (s + 1, .i (i8 x)) := by
      show (match (match takeB bs s 1 with | .ok l => Except.ok (WD.i (i8 (l.headD 0)), s + 1) | .error e => .error e) with | .error a => Except.error a | .ok (x, s2) => .ok (s2, x)) = _
      rw [ht]
      rfl
    suffices hsuf : Calls Tryd.prog 81 #[.pointer (some ⟨y, 0, none⟩), .pointer (some ⟨g, j, none⟩)] W (fun e W' => e = .returned (.tuple #[]) ∧ PO W') from Calls.mono hsuf fun e W' h => by
      obtain ⟨h1, h2⟩ := h
      rw [hPO] at h2
      rw [hst]
      exact ⟨h2.1, h1, h2.2⟩
    have HEND := Lib.hid (fun W1 (h1 : FrA (eyeS y lo bs) (fun _ _ _ => False) W W1) (h2 : (eyeS y lo bs).In W1 (s + 1)) (hx : x < 256) => show PO (W1.setCell ⟨g, j, none⟩ (.int .i8 (i8 x))) by
      rw [hPO]
      have h := eye_store (v' := .int .i8 (i8 x)) h2 (HA.out.fr h1 id) h1
      exact ⟨h.1, h.2.1, _, h.2.2, rfl, (u8_i8 hx).2⟩)
    clear hPO hst
    go_enter Tryd.func81, Tryd.ntmps81
    go_wp2_with (refine Calls.mono HC1.out ?_; rintro e W1 ⟨hF, v, rfl, hI1, ⟨a1, b1, o1, c1, rfl, hby, hbl⟩, hll⟩; obtain ⟨ea, hblt⟩ := hby.at_ (by rw [hll]; omega); subst ea; have c9 : W1.cell? ⟨b1, o1, none⟩ = some (.int .u8 (x : Nat)) := (hby.cell 0 (by rw [hll]; omega)); have hx := hby.bd 0 (by rw [hll]; omega); have hx : x < 256 := hx; have q1 := (HA.out.fr hF id).cell; have q2 := (HA.out.fr hF id).free; have HE := Lib.hid (HEND.out W1 hF hI1 hx); have cv : IntKind.i8.wrap (x : Int) = i8 x := wrap_i8 hx; clear hF hI1 hby hbl hll hblt)
    try go_wp2_with fail
    go_end0
    exact ⟨rfl, HE.out⟩
set_option maxRecDepth 100000 in
set_option maxHeartbeats 8000000 in
theorem eye_set : StepC (eyeS y lo bs) .set 82 := by
  intro W s ty g j d hI hD hP
  obtain ⟨x0, hA, -⟩ := hD
  have HTK := Lib.hid (eye_take W s 1 hI (by omega))
  have HA := Lib.hid hA
  clear hA hI hP
  rcases ht : takeB bs s 1 with a | l
  · have hst : (eyeS y lo bs).step .set s d = .error a := by
      show (match (match takeB bs s 1 with | .ok l => Except.ok (WD.i (l.headD 0 : Nat), s + 1) | .error e => .error e) with | .error a => Except.error a | .ok (x, s2) => .ok (s2, x)) = _
      rw [ht]
    rw [hst]
    have HC1 := Lib.hid (show Calls Tryd.prog 112 #[.pointer (some ⟨y, 0, none⟩), .int .i64 1] W (fun e W' => FrA (eyeS y lo bs) (fun _ _ _ => False) W W' ∧ e = .panicked [{ v := refV a, recovered := false }]) from by have := HTK.out; rw [ht] at this; exact this)
    show Calls Tryd.prog _ #[.pointer (some ⟨y, 0, none⟩), .pointer (some ⟨g, j, none⟩)] W _
    clear hst HTK ht
    go_enter Tryd.func82, Tryd.ntmps82
    go_wp2_with (refine Calls.mono HC1.out ?_; rintro e W1 ⟨hF, rfl⟩)
    exact (show _ ∧ EndS (eyeS y lo bs) (cell1 ty g j) W _ _ _ _ from ⟨rfl, hF.mono (fun _ _ _ h => h.elim), rfl⟩)
  · have HC1 := Lib.hid (show Calls Tryd.prog 112 #[.pointer (some ⟨y, 0, none⟩), .int .i64 1] W (fun e W' => FrA (eyeS y lo bs) (fun _ _ _ => False) W W' ∧ ∃ v, e = .returned v ∧ (eyeS y lo bs).In W' (s + 1) ∧ BL lo W' v l ∧ l.length = 1) from by have := HTK.out; rw [ht] at this; exact this)
    clear HTK
    have hl1 : l.length = 1 := (takeB_ok ht).2.1
    obtain ⟨x, rfl⟩ := len1 hl1
    obtain ⟨PO, hPO⟩ : ∃ PO : World → Prop, PO = fun W' => FrA (eyeS y lo bs) (cell1 ty g j) W W' ∧ (eyeS y lo bs).In W' (s + 1) ∧ Dp (eyeS y lo bs) W' .set ty g j (.i (x : Nat)) := ⟨_, rfl⟩
    have hst : (eyeS y lo bs).step .set s d = .ok (s + 1, .i (x : Nat)) := by
      show (match (match takeB bs s 1 with | .ok l => Except.ok (WD.i (l.headD 0 : Nat), s + 1) | .error e => .error e) with | .error a => Except.error a | .ok (x, s2) => .ok (s2, x)) = _
      rw [ht]
      rfl
    suffices hsuf : Calls Tryd.prog 82 #[.pointer (some ⟨y, 0, none⟩), .pointer (some ⟨g, j, none⟩)] W (fun e W' => e = .returned (.tuple #[]) ∧ PO W') from Calls.mono hsuf fun e W' h => by
      obtain ⟨h1, h2⟩ := h
      rw [hPO] at h2
      rw [hst]
      exact ⟨h2.1, h1, h2.2⟩
    have HEND := Lib.hid (fun W1 (h1 : FrA (eyeS y lo bs) (fun _ _ _ => False) W W1) (h2 : (eyeS y lo bs).In W1 (s + 1)) (hx : x < 256) => show PO (W1.setCell ⟨g, j, none⟩ (.int .u8 (x : Nat))) by
      rw [hPO]
      have h := eye_store (v' := .int .u8 (x : Nat)) h2 (HA.out.fr h1 id) h1
      exact ⟨h.1, h.2.1, _, h.2.2, rfl, by omega, by omega⟩)
    clear hPO hst
    go_enter Tryd.func82, Tryd.ntmps82
    go_wp2_with (refine Calls.mono HC1.out ?_; rintro e W1 ⟨hF, v, rfl, hI1, ⟨a1, b1, o1, c1, rfl, hby, hbl⟩, hll⟩; obtain ⟨ea, hblt⟩ := hby.at_ (by rw [hll]; omega); subst ea; have c9 : W1.cell? ⟨b1, o1, none⟩ = some (.int .u8 (x : Nat)) := (hby.cell 0 (by rw [hll]; omega)); have hx := hby.bd 0 (by rw [hll]; omega); have hx : x < 256 := hx; have q1 := (HA.out.fr hF id).cell; have q2 := (HA.out.fr hF id).free; have HE := Lib.hid (HEND.out W1 hF hI1 hx); clear hF hI1 hby hbl hll hblt)
    try go_wp2_with fail
    go_end0
    exact ⟨rfl, HE.out⟩
end
end Go.Proofs.YtiednacpmlilbaaDoor
