/-
  The laws of packets: bytes as strings; what the document says of a packet without a load.
-/
import Derived.Test.YtpgpcgpecpimlaaPkd
namespace Go.Proofs.Ytpgpcgpecpimlaa
open Go.RowKit
set_option linter.unusedSimpArgs false
set_option linter.unusedVariables false

def bytesOf (X : Nat → Nat) (n : Nat) : List UInt8 := (List.range n).map fun j => UInt8.ofNat (X j)
theorem bytesOf_len (X : Nat → Nat) (n : Nat) : (bytesOf X n).length = n := by simp [bytesOf]
theorem ByIn.string {W : World} {a : Option Addr} {n c b o : Nat} {X : Nat → Nat} (h : ByIn W a n c b o X) : (convert 44 9 (.slice a n c)).run Try.prog W = .ok (.string ⟨(bytesOf X n).toArray⟩) W := by
  by_cases h0 : n = 0
  · subst h0
    cases a with
    | none =>
      rw [run_convert_bytes_string W 44 9 5 none _ c Try.underlying44 Try.underlying5 Try.underlying9]
      rfl
    | some x => exact run_convert_bytes_back (P := Try.prog) W 44 9 5 x c [] Try.underlying44 Try.underlying5 Try.underlying9 fun j hj => by simp at hj
  · obtain ⟨e0, _⟩ := h.at_ (by omega)
    subst e0
    have hr := run_convert_bytes_back (P := Try.prog) W 44 9 5 ⟨b, o, none⟩ c (bytesOf X n) Try.underlying44 Try.underlying5 Try.underlying9 fun j hj => by
      rw [bytesOf_len] at hj
      rw [addr_add, h.cell j hj]
      have hb := h.bd j
      simp [bytesOf]
      omega
    rw [bytesOf_len] at hr
    exact hr
theorem rowV_congr {X Y : Nat → Nat} {n : Nat} (h : ∀ j, j < n → X j = Y j) : rowV X n = rowV Y n := by
  refine List.ext_getElem? fun j => ?_
  by_cases hj : j < n
  · rw [rowV_at _ _ _ hj, rowV_at _ _ _ hj, h j hj]
  · rw [List.getElem?_eq_none (by rw [rowV_len]; omega), List.getElem?_eq_none (by rw [rowV_len]; omega)]

def w23 (j : Nat) : Nat := [105, 1, 0, 0, 0, 0, 150, 254].getD j 0
theorem w23_bd (j : Nat) : w23 j < 256 := by
  by_cases h : j < 8
  · have := (by decide +kernel : ∀ j, j < 8 → w23 j < 256) j h
    exact this
  · rw [w23, List.getD_eq_getElem?_getD, List.getElem?_eq_none (by simp; omega)]
    decide
theorem build_empty (w : World) : Calls Try.prog 36 #[.agg #[.int .i64 0, .int .i64 1, .int .i64 0, .slice none 0 0]] w fun e w' => ∃ a cap ob, e = .returned (.tuple #[.slice a 8 cap, .int .i64 0]) ∧ ByIn w' a 8 cap ob 0 w23 ∧ Below w.heap.size w w' := by
  have h0 : ByIn w none 0 0 0 0 (fun _ => 0) := ⟨Nat.le_refl _, by unfold maxLen; omega, fun h => by omega, fun k hk => by omega, fun _ => by omega⟩
  refine Calls.mono (build_any 0 1 0 none 0 0 0 0 (fun _ => 0) w h0 (by omega) (by omega) (by omega)) ?_
  rintro e w' ⟨v, ob, rfl, hr, hob, hB⟩
  rw [rowV_congr (Y := w23) (by decide +kernel)] at hr
  obtain ⟨a, cap, rfl, hby⟩ := row_by hr w23_bd
  exact ⟨a, cap, _, rfl, hby, hB⟩
theorem w23_ok : parseOk w23 8 = true := by decide +kernel
theorem w23_str : bytesOf w23 8 = [105, 1, 0, 0, 0, 0, 150, 254] := by decide +kernel
theorem parse_w23 (a : Option Addr) (cap b : Nat) (w : World) (h : ByIn w a 8 cap b 0 w23) : Calls Try.prog 37 #[.slice a 8 cap] w fun e w' => ∃ a' c', e = .returned (.tuple #[.agg #[.int .i64 0, .int .i64 1, .int .i64 0, .slice a' 0 c'], .int .i64 0]) ∧ Below w.heap.size w w' := by
  refine Calls.mono (parse_any a 8 cap b 0 w23 w h) ?_
  rintro e w' ⟨hB, ⟨h1, _⟩ | ⟨_, a', c', b', he, _⟩⟩
  · rw [w23_ok] at h1; cases h1
  · exact ⟨a', c', he, hB⟩
theorem parse_seven (a : Option Addr) (w : World) : Calls Try.prog 37 #[.slice a 7 7] w fun e w' => e = .returned (.tuple #[.agg #[.int .i64 0, .int .i64 0, .int .i64 0, .slice none 0 0], .int .i64 230]) ∧ Below w.heap.size w w' := by
  refine Calls.mono (parse_short a 7 7 (fun _ => 0) w (by omega) (by omega)) ?_
  rintro e w' ⟨hB, ⟨_, he⟩ | ⟨h1, _⟩⟩
  · exact ⟨he, hB⟩
  · unfold parseOk at h1; rw [decide_eq_false (by omega)] at h1; cases h1
def f23 (k : Nat) : FlowE := if k = 0 then ⟨2, 0, 0⟩ else ⟨1, 0, 0⟩
theorem flow_three (b : Nat) (w : World) (h : Blk w b #[.int .i64 2, .int .i64 0, .int .i64 0, .int .i64 1, .int .i64 0, .int .i64 0, .int .i64 1, .int .i64 0, .int .i64 0] 58) :
    Calls Try.prog 34 #[.slice (some ⟨b, 0, none⟩) 3 3, .agg #[.int .i64 0, .int .i64 1, .int .i64 3, .slice none 0 0]] w fun e w' => e = .returned (.tuple #[.int .i64 2, .int .i64 0]) ∧ Below w.heap.size w w' := by
  have hf : FlowIn w (some ⟨b, 0, none⟩) 3 3 b 0 f23 := by
    refine ⟨Nat.le_refl _, by unfold maxLen; omega, fun _ => ⟨rfl, h.lt⟩, fun k hk => ?_, fun k hk => ?_⟩
    · have hk3 : k = 0 ∨ k = 1 ∨ k = 2 := by omega
      rcases hk3 with rfl | rfl | rfl
      · exact ⟨cell_at h 0, cell_at h 1, cell_at h 2⟩
      · exact ⟨cell_at h 3, cell_at h 4, cell_at h 5⟩
      · exact ⟨cell_at h 6, cell_at h 7, cell_at h 8⟩
    · unfold f23 FlowE.ok
      split <;> exact ⟨⟨by decide, by decide⟩, ⟨by decide, by decide⟩, ⟨by decide, by decide⟩⟩
  have hF := flow_any 0 1 3 none 0 0 (some ⟨b, 0, none⟩) 3 3 b 0 f23 w hf
  have e1 : flowK 1 3 f23 3 = 2 := by decide +kernel
  have e2 : flowE 1 3 f23 3 = 0 := by decide +kernel
  rw [e1, e2] at hF
  exact hF

set_option maxRecDepth 100000 in
set_option maxHeartbeats 8000000 in
theorem pwakes_any (w : World) : Calls Try.prog 33 #[] w fun e w' => e = .returned (.bool true) ∧ Below w.heap.size w w' := by
  have hmk : ∀ w, (Instr.makeSlice 44 (.int .i64 7) (.int .i64 7)).run Try.prog w = .ok (.slice (some ⟨w.heap.size, 0, none⟩) 7 7) (w.alloc (.cells #[.int .u8 0, .int .u8 0, .int .u8 0, .int .u8 0, .int .u8 0, .int .u8 0, .int .u8 0] 5)) := fun _ => by kernel_rfl
  go_enter Try.func33, Try.ntmps33
  go_wp2_with fail
  go_at_call 36
  refine (build_empty _).mono ?_
  rintro e W1 ⟨a, cap, ob, rfl, hby, hB1⟩
  have HBY := Lib.hid hby
  have HB1 := Lib.hid hB1
  clear hby hB1
  go_wp2_with fail
  go_at_call 37
  refine (parse_w23 _ _ _ _ HBY.out).mono ?_
  rintro e W2 ⟨a', c', rfl, hB2⟩
  have HP2 := Lib.hid ((blk_new W2 #[.int .i64 0, .int .i64 1, .int .i64 0, .slice a' 0 c'] 46).alloc (.cells #[.int .u8 0, .int .u8 0, .int .u8 0, .int .u8 0, .int .u8 0, .int .u8 0, .int .u8 0] 5))
  have hBx : Below W2.heap.size W2 ((W2.alloc (.cells #[.int .i64 0, .int .i64 1, .int .i64 0, .slice a' 0 c'] 46)).alloc (.cells #[.int .u8 0, .int .u8 0, .int .u8 0, .int .u8 0, .int .u8 0, .int .u8 0, .int .u8 0] 5)) := ((Below.refl _ _).alloc (Nat.le_refl _) _).alloc (by simp) _
  have hB2' := HB1.out.trans (hB2.mono HB1.out.size)
  have HBY2 := Lib.hid ((HBY.out.below hB2).below hBx)
  have HB2 := Lib.hid (hB2'.trans (hBx.mono hB2'.size))
  clear hB2 hBx hB2'
  go_wp2_with fail
  go_at_call 37
  refine (parse_seven _ _).mono ?_
  rintro e W3 ⟨rfl, hB3⟩
  have HP3 := Lib.hid (HP2.out.step hB3)
  have HBY3 := Lib.hid (HBY2.out.below hB3)
  have HB3 := Lib.hid (HB2.out.trans (hB3.mono HB2.out.size))
  clear hB3 HBY2 HP2
  go_wp2_with fail
  go_at_call 34
  obtain ⟨WY, hWY⟩ : ∃ WY, WY = (W3.alloc (.cells #[.int .i64 0, .int .i64 0, .int .i64 0, .slice none 0 0] 46)).alloc (.cells #[.int .i64 2, .int .i64 0, .int .i64 0, .int .i64 1, .int .i64 0, .int .i64 0, .int .i64 1, .int .i64 0, .int .i64 0] 58) := ⟨_, rfl⟩
  have hBy : Below W3.heap.size W3 WY := by rw [hWY]; exact ((Below.refl _ _).alloc (Nat.le_refl _) _).alloc (by simp) _
  have hbk : Blk WY (W3.heap.size + 1) #[.int .i64 2, .int .i64 0, .int .i64 0, .int .i64 1, .int .i64 0, .int .i64 0, .int .i64 1, .int .i64 0, .int .i64 0] 58 := by
    rw [hWY]
    have h := blk_new (W3.alloc (.cells #[.int .i64 0, .int .i64 0, .int .i64 0, .slice none 0 0] 46)) #[.int .i64 2, .int .i64 0, .int .i64 0, .int .i64 1, .int .i64 0, .int .i64 0, .int .i64 1, .int .i64 0, .int .i64 0] 58
    rw [World.size_alloc] at h
    exact h
  rw [← hWY]
  clear hWY
  refine (flow_three _ _ hbk).mono ?_
  rintro e W5 ⟨rfl, hB5⟩
  have hB35 := hBy.trans (hB5.mono hBy.size)
  have hp := HP3.out.step hB35
  have p1 : W5.cell? ⟨W2.heap.size, 1, none⟩ = some (.int .i64 1) := cell_at hp 1
  have hconv := (HBY3.out.below hB35).string
  rw [w23_str] at hconv
  have HBF := Lib.hid (HB3.out.trans (hB35.mono HB3.out.size))
  clear hB5 hBy hbk hB35 hp
  go_wp2_with fail
  go_ret
  exact ⟨rfl, HBF.out⟩
end Go.Proofs.Ytpgpcgpecpimlaa
