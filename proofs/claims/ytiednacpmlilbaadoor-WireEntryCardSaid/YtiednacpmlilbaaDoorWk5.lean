/-
  What the document says of the zero answer, and of nothing framed; bytes as strings.
-/
import Derived.Test.YtiednacpmlilbaaDoorWMk
import Derived.Test.YtiednacpmlilbaaDoorWan
import Derived.Laws.StructEq
namespace Go.Proofs.YtiednacpmlilbaaDoor
open Go.RowKit
set_option linter.unusedSimpArgs false
set_option linter.unusedVariables false

def bytesU (l : List Nat) : List UInt8 := l.map UInt8.ofNat
theorem bv_string {W : World} {v : Value} {l : List Nat} (h : BV W v l) : (convert 23 9 v).run Tryd.prog W = .ok (.string ⟨(bytesU l).toArray⟩) W := by
  obtain ⟨a, b, o, c, rfl, h⟩ := h
  by_cases h0 : l.length = 0
  · have hl : l = [] := List.eq_nil_of_length_eq_zero h0
    subst hl
    cases a with
    | none =>
      rw [run_convert_bytes_string W 23 9 5 none _ c Tryd.underlying23 Tryd.underlying5 Tryd.underlying9]
      rfl
    | some x => exact run_convert_bytes_back (P := Tryd.prog) W 23 9 5 x c [] Tryd.underlying23 Tryd.underlying5 Tryd.underlying9 fun j hj => by simp at hj
  · obtain ⟨e0, _⟩ := h.at_ (by omega)
    subst e0
    have hr := run_convert_bytes_back (P := Tryd.prog) W 23 9 5 ⟨b, o, none⟩ c (bytesU l) Tryd.underlying23 Tryd.underlying5 Tryd.underlying9 fun j hj => by
      have hj : j < l.length := by simpa [bytesU] using hj
      have hb := h.bd j hj
      rw [addr_add, h.cell j hj]
      have hg := gB_lt hj
      have hg2 : l[j] = gB l j := by rw [List.getElem?_eq_getElem hj] at hg; exact Option.some.inj hg
      simp [bytesU, hg2]
      omega
    rw [show (bytesU l).length = l.length by simp [bytesU]] at hr
    exact hr
theorem bytesU_inj {A B : List Nat} (hA : okB A) (hB : okB B) (h : bytesU A = bytesU B) : A = B := by
  have hm : ∀ {L : List Nat}, okB L → (bytesU L).map UInt8.toNat = L := fun {L} hL => by
    unfold bytesU
    rw [List.map_map]
    conv => rhs; rw [← List.map_id L]
    refine List.map_congr_left fun x hx => ?_
    have := hL x hx
    show (UInt8.ofNat x).toNat = x
    rw [UInt8.toNat_ofNat']
    omega
  rw [← hm hA, ← hm hB, h]
theorem str_eql (w : World) (A B : List UInt8) : (binOp .eql 9 (.string ⟨A.toArray⟩) (.string ⟨B.toArray⟩)).run Tryd.prog w = .ok (.bool (A == B)) w := by
  have h : (binOp .eql 9 (.string ⟨A.toArray⟩) (.string ⟨B.toArray⟩)).run Tryd.prog w = .ok (.bool ((⟨A.toArray⟩ : ByteArray).toList == (⟨B.toArray⟩ : ByteArray).toList)) w := rfl
  rw [h, ByteArray.toList_eq, ByteArray.toList_eq]
theorem sumL_nil : sumL [] = 0 := by
  unfold sumL moreN
  show cpl (cpl 0) = 0
  exact cpl_cpl 0
theorem frame_nil : frameL [] = [0, 0, 0, 0, 0, 0, 0, 0] := by
  unfold frameL
  rw [sumL_nil]
  rfl
theorem unf_nine : unfL [0, 0, 0, 0, 0, 0, 0, 0, 9] = some ([], 8) := by
  unfold unfL
  rw [if_neg (by decide), if_neg (by decide)]
  rw [show d4 [0, 0, 0, 0, 0, 0, 0, 0, 9] = 0 from rfl, show ([0, 0, 0, 0, 0, 0, 0, 0, 9].drop 8).take 0 = [] from rfl, sumL_nil, show d4 ([0, 0, 0, 0, 0, 0, 0, 0, 9].drop 4) = 0 from rfl, if_pos rfl]
theorem bv_nil (W : World) : BV W (.slice none 0 0) [] := ⟨none, 0, 0, 0, rfl, Nat.le_refl _, by unfold maxLen; simp, fun h => absurd h (by simp), fun k hk => absurd hk (by simp), fun k hk => absurd hk (by simp)⟩
theorem bv_blk {W : World} {b : Nat} {L : List Nat} {ty : TypeId} (h : Blk W b (L.map fun x => Value.int .u8 (x : Nat)).toArray ty) (ho : okB L) (hm : L.length ≤ maxLen := by unfold maxLen; simp) : BV W (.slice (some ⟨b, 0, none⟩) L.length L.length) L := by
  refine ⟨some ⟨b, 0, none⟩, b, 0, L.length, rfl, Nat.le_refl _, hm, fun _ => ⟨rfl, h.lt⟩, fun k hk => ?_, fun k hk => ho _ (List.mem_of_getElem? (gB_lt hk))⟩
  rw [cell_at h, Nat.zero_add]
  simp [gB_lt hk]
def ansZ : List WD := [.i 0, .i 0, .i 0, .i 0, .i 0]
theorem ansZ_vd (W : World) : VDs W #[.int .i64 0, .int .i64 0, .int .i64 0, .int .i64 0, .int .i64 0] answerW ansZ := by
  refine ⟨rfl, fun i f d h1 h2 => ?_⟩
  match i, h1, h2 with
  | 0, h1, h2 => cases h1; cases h2; exact ⟨_, rfl, rfl, by omega, by omega⟩
  | 1, h1, h2 => cases h1; cases h2; exact ⟨_, rfl, rfl, by omega, by omega⟩
  | 2, h1, h2 => cases h1; cases h2; exact ⟨_, rfl, rfl, by omega, by omega⟩
  | 3, h1, h2 => cases h1; cases h2; exact ⟨_, rfl, rfl, by omega, by omega⟩
  | 4, h1, h2 => cases h1; cases h2; exact ⟨_, rfl, rfl, by omega, by omega⟩
  | k + 5, h1, h2 => simp [answerW] at h1
theorem ansZ_enc : encFs answerW ansZ = List.replicate 40 0 := by decide
theorem ansZ_short : readFs answerW (List.replicate 39 0) = .error 39 := by rfl
theorem by_h {a : Option Addr} {ln c : Nat} (e : Nat) (h3 : e ≤ c) (W' : World) :
    (Instr.slice 23 (.slice a ln c) none (some (.int .i64 (e : Nat))) none).run Tryd.prog W' = .ok (.slice (midB a 0 c) e c) W' := by
  rw [run_slice_h W' 23 a ln c elemBy .i64 e (by omega) (by omega), sizeBy]
  rfl
theorem neq_eight (W : World) : (binOp .neq 9 (.string ⟨(bytesU [0, 0, 0, 0, 0, 0, 0, 0]).toArray⟩) (.string ⟨#[0, 0, 0, 0, 0, 0, 0, 0]⟩)).run Tryd.prog W = .ok (.bool false) W := by kernel_rfl
set_option maxRecDepth 100000 in
set_option maxHeartbeats 8000000 in
theorem wakes_any (w : World) (ht : Tab w) : Calls Tryd.prog 9 #[] w fun e w' => e = .returned (.bool true) ∧ Below w.heap.size w w' := by
  have HT := Lib.hid ht
  have HA := Lib.hid (fun W => wAnswer_any W #[.int .i64 0, .int .i64 0, .int .i64 0, .int .i64 0, .int .i64 0] ansZ rfl (ansZ_vd W) (by rw [ansZ_enc]; simp))
  clear ht
  go_enter Tryd.func9, Tryd.ntmps9
  go_wp2_with (refine Calls.mono (HA.out _) ?_; rintro e W1 ⟨v1, rfl, hv1, hB1⟩; have HB1 := Lib.hid hB1; rw [ansZ_enc] at hv1; obtain ⟨a1, n1, c1, rfl, hn1, hc1, hm1⟩ := hv1.sh; have en1 : n1 = 40 := hn1.out; subst en1; have HV1 := Lib.hid hv1; have HF := Lib.hid (frame_any W1 (.slice none 0 0) [] (HT.out.below hB1) (bv_nil _) (by simp)); clear hv1 hn1 hB1 HA)
  go_wp2_with (refine Calls.mono HF.out ?_; rintro e W2 ⟨hB2, -, h2⟩; obtain ⟨v2, rfl, hv2⟩ := h2 (by simp); rw [frame_nil] at hv2; have HB2 := Lib.hid (HB1.out.trans (hB2.mono HB1.out.size)); have HV2 := Lib.hid hv2; have HV12 := Lib.hid (HV1.out.below hB2); clear hB2 h2 hv2 HF)
  rw [show (W2.alloc (.cells #[.int .u8 0, .int .u8 0, .int .u8 0, .int .u8 0, .int .u8 0, .int .u8 0, .int .u8 0, .int .u8 0, .int .u8 9] 5)) = W2.alloc (.cells #[.int .u8 0, .int .u8 0, .int .u8 0, .int .u8 0, .int .u8 0, .int .u8 0, .int .u8 0, .int .u8 0, .int .u8 9] 5) from rfl]
  obtain ⟨N, hN⟩ : ∃ N, N = W2.heap.size := ⟨_, rfl⟩
  obtain ⟨W3, hW3⟩ : ∃ X, X = W2.alloc (.cells #[.int .u8 0, .int .u8 0, .int .u8 0, .int .u8 0, .int .u8 0, .int .u8 0, .int .u8 0, .int .u8 0, .int .u8 9] 5) := ⟨_, rfl⟩
  have b3 : Below W2.heap.size W2 W3 := by rw [hW3]; exact alloc_b _ _
  have k3 : Blk W3 N #[.int .u8 0, .int .u8 0, .int .u8 0, .int .u8 0, .int .u8 0, .int .u8 0, .int .u8 0, .int .u8 0, .int .u8 9] 5 := by rw [hW3, hN]; exact blk_new _ _ _
  have hv3 : BV W3 (.slice (some ⟨N, 0, none⟩) 9 9) [0, 0, 0, 0, 0, 0, 0, 0, 9] := bv_blk (L := [0, 0, 0, 0, 0, 0, 0, 0, 9]) k3 (by intro x hx; simp at hx; omega)
  have HU := Lib.hid (unframe_any W3 _ [0, 0, 0, 0, 0, 0, 0, 0, 9] (HT.out.below (HB2.out.trans (b3.mono HB2.out.size))) hv3 (by simp))
  have HB3 := Lib.hid (HB2.out.trans (b3.mono HB2.out.size))
  have HV3 := Lib.hid (HV12.out.below b3)
  have HVf := Lib.hid (HV2.out.below b3)
  rw [← hW3, ← hN]
  clear b3 k3 hv3 hW3 hN
  have hcv : Hid (∀ W, BV W v2 [0, 0, 0, 0, 0, 0, 0, 0] → (convert 23 9 v2).run Tryd.prog W = .ok (.string ⟨(bytesU [0, 0, 0, 0, 0, 0, 0, 0]).toArray⟩) W) := Lib.hid (fun W h => bv_string h)
  have hneq := neq_eight
  obtain ⟨bt, hbt⟩ : ∃ bt, bt = (bytesU [0, 0, 0, 0, 0, 0, 0, 0]).toArray := ⟨_, rfl⟩
  rw [← hbt] at hcv hneq
  have hbl : (⟨bt⟩ : ByteArray).toList = [0, 0, 0, 0, 0, 0, 0, 0] := by rw [hbt, ByteArray.toList_eq]; rfl
  clear hbt
  have hsl : ∀ W', (Instr.slice 23 (.slice a1 40 c1) none (some (.int .i64 39)) none).run Tryd.prog W' = .ok (.slice (midB a1 0 c1) 39 c1) W' := fun W' => by_h 39 (by omega) W'
  have HV39 := Lib.hid (fun W (h : BV W (.slice a1 40 c1) (List.replicate 40 0)) => show BV W (.slice (midB a1 0 c1) 39 c1) (List.replicate 39 0) from bv_mid h 0 39 (by omega))
  obtain ⟨a2, ha2⟩ : ∃ x, x = midB a1 0 c1 := ⟨_, rfl⟩
  rw [← ha2] at hsl HV39
  clear ha2
  refine Calls.mono HU.out ?_
  rintro e W4 ⟨hB4, h4⟩
  rw [unf_nine] at h4
  obtain ⟨v4, rfl, hv4⟩ := h4
  obtain ⟨a4, n4, c4, rfl, hn4, hc4, hm4⟩ := hv4.sh
  have en4 : n4 = 0 := hn4.out
  subst en4
  have HB4 := Lib.hid (HB3.out.trans (hB4.mono HB3.out.size))
  have q1 := hcv.out W4 (HVf.out.below hB4)
  have HR := Lib.hid (rAnswer_any W4 _ (List.replicate 39 0) (HV39.out W4 (HV3.out.below hB4)) (by simp))
  rw [ansZ_short] at HR
  clear hB4 hv4 hn4 HU hcv HV39
  go_wp2_with (refine Calls.mono HR.out ?_; rintro e W5 ⟨hB5, rfl⟩; have HB5 := Lib.hid (HB4.out.trans (hB5.mono HB4.out.size)); clear hB5 HR)
  go_ret
  exact ⟨rfl, HB5.out.trans ((alloc_b W5 _).mono HB5.out.size)⟩
end Go.Proofs.YtiednacpmlilbaaDoor
