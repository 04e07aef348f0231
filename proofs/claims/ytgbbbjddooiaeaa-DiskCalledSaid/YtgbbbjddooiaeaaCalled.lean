/-
  DiskCalled's walk.
-/
import Derived.Test.YtgbbbjddooiaeaaCalledA
import Derived.Deep.RegionHeld3
import Derived.Deep.CutRange
namespace Go.Proofs.Ytgbbbjddooiaeaa
open Go.RowKit

theorem two_names {w : World} {base : Nat} {v : Value} (h : w.ownsRow base 9 1 v 2 (([[120], [121]] : List (List UInt8)).map encStr)) :
    ∃ g cap, v = .slice (some ⟨g, 0, none⟩) 2 cap ∧ w.cell? ⟨g, 0, none⟩ = some (.string sX) ∧ w.cell? ⟨g, 1, none⟩ = some (.string sY) := by
  obtain ⟨_, ⟨_, h2⟩ | ⟨g, cap, cur, rfl, _, h3, h4, h5, h6, h7⟩⟩ := h
  · cases h2
  · refine ⟨g, cap, rfl, ?_, ?_⟩
    · rw [cell_at h3, ← Array.getElem?_toList]
      have : (cur.toList.take (2 * 1))[0]? = (([[120], [121]] : List (List UInt8)).map encStr)[0]? := by rw [h7]
      rw [List.getElem?_take, if_pos (by omega)] at this
      rw [this]; rfl
    · rw [cell_at h3, ← Array.getElem?_toList]
      have : (cur.toList.take (2 * 1))[1]? = (([[120], [121]] : List (List UInt8)).map encStr)[1]? := by rw [h7]
      rw [List.getElem?_take, if_pos (by omega)] at this
      rw [this]; rfl

def ring : Obj := .cells #[.string sX, .string sT, .string sY, .string sX, .string sT, .string sY] 9
theorem OneR.ring0 {w0 w : World} {D : Nat} {l : List Nat} {d : PD} {R : Nat} (T : OneR w0 w D l d R ring) :
    w.cell? ⟨R, 0, none⟩ = some (.string sX) ∧ w.cell? ⟨R, 1, none⟩ = some (.string sT) ∧ w.cell? ⟨R, 2, none⟩ = some (.string sY) :=
  ⟨cell_at T.row 0, cell_at T.row 1, cell_at T.row 2⟩
theorem OneR.ring1 {w0 w : World} {D : Nat} {l : List Nat} {d : PD} {R : Nat} (T : OneR w0 w D l d R ring) :
    w.cell? ⟨R, 3, none⟩ = some (.string sX) ∧ w.cell? ⟨R, 4, none⟩ = some (.string sT) ∧ w.cell? ⟨R, 5, none⟩ = some (.string sY) :=
  ⟨cell_at T.row 3, cell_at T.row 4, cell_at T.row 5⟩
theorem sX_list : sX.toList = [120] := by kernel_rfl
theorem sY_list : sY.toList = [121] := by kernel_rfl
theorem called_sure (s : Int) (n : Nat) : ∃ m : Nat, min (max s 0) (n : Int) = (m : Int) ∧ m ≤ n := ⟨(min (max s 0) (n : Int)).toNat, by omega, by omega⟩

set_option maxHeartbeats 4000000 in
set_option maxRecDepth 100000 in
theorem called_walk (a b : Option Addr) (la ca lb cb : Nat) (A B : List UInt8) (s : Int) (w : World) (ha : BytesIn w a la ca A) (hb : BytesIn w b lb cb B) (hra : la ≤ 140737488355328) (hrb : lb ≤ 140737488355328) :
    Calls Try.prog 6 #[.slice a la ca, .slice b lb cb, .int .i64 s] w fun r w' => r = .returned (.bool true) ∧ Below w.heap.size w w' := by
  by_cases hbig : 20000 < la + lb
  · clear ha hb
    go_enter Try.func6, Try.ntmps6
    go_wp2_with (go_at_call 10; refine (wakes_any _).mono ?_; rintro e w5 ⟨rfl, hB5⟩)
    go_ret
    exact ⟨rfl, hB5⟩
  · go_enter Try.func6, Try.ntmps6
    go_wp2_with (go_at_call 11; refine (One.make (w := _)).mono ?_; rintro e w1 ⟨rfl, T⟩)
    obtain ⟨m, hm, hml⟩ := called_sure s la
    rw [hm]
    clear hm
    obtain ⟨b0, o0, hsp, hce⟩ := ha.spot
    obtain ⟨D, hD⟩ : ∃ D, D = w.heap.size := ⟨_, rfl⟩
    rw [← hD] at T ⊢
    have HD := Lib.hid hD
    clear hD
    have hA1 : (A.take m).length = m := by rw [List.length_take, ha.size]; omega
    have hA2 : (A.drop m).length = la - m := by rw [List.length_drop, ha.size]
    have hcut1 : ∀ W : World, (Instr.slice 35 (.slice a la ca) none (some (.int .i64 (m : Nat))) none).run Try.prog W = .ok (.slice a m ca) W := fun W => by
      rw [run_slice_h (P := Try.prog) W 35 a la ca sl_under .i64 (m : Nat) (by omega) (by have := ha.le; omega), sl_elem]
      simp [Result.andThen, sliced]
      intro _
      cases a <;> simp [Addr.add]
    obtain ⟨a2, ha2, hcut2⟩ : ∃ a2 : Option Addr, (0 < la - m → a2 = some ⟨b0, o0 + m, none⟩) ∧ ∀ W : World, (Instr.slice 35 (.slice a la ca) (some (.int .i64 (m : Nat))) none none).run Try.prog W = .ok (.slice a2 (la - m) (ca - m)) W := by
      refine ⟨if ca = m then a else a.map (·.add m), fun h => ?_, fun W => ?_⟩
      · have := ha.le
        rw [if_neg (by omega), (hsp (by omega)).1, Option.map_some, addr_plain]
      · rw [run_slice_l (P := Try.prog) W 35 a la ca sl_under .i64 (m : Nat) (by omega) (by omega), sl_elem]
        simp [Result.andThen, sliced]
    have hle := ha.le
    have hsz := ha.size
    have HA := Lib.hid ha
    have HB := Lib.hid hb
    clear ha hb
    refine Calls.mono (make_O T sX (by decide) q1) ?_
    clear T
    rintro e w2 ⟨rfl, l2, T⟩
    go_wp2_with fail
    have hBl := T.below
    refine Calls.mono (append_O T sX b0 o0 ca m _ (A.take m) hA1.symm (by omega) (by omega) (fun h => ⟨(hsp (by omega)).1, by have := (hsp (by omega)).2; have := hBl.size; omega, fun hm => by have := T.new _ hm; have := (hsp (by omega)).2; omega⟩) (fun j hj => by
      rw [hBl.cell (p := ⟨b0, o0 + j, none⟩) (hsp (by omega)).2, hce j (by omega)]
      simp [List.getD, List.getElem?_take, show j < m by omega]) (q2 [] _ 0 (by simp; omega))) ?_
    rw [List.nil_append]
    clear T hBl
    rintro e w3 ⟨rfl, l3, T⟩
    go_wp2_with fail
    refine Calls.mono (sync_O T sX (q3 _)) ?_
    rw [hA1]
    clear T
    rintro e w4 ⟨rfl, l4, T⟩
    go_wp2_with fail
    have hBl := T.below
    refine Calls.mono (append_O T sX b0 (o0 + m) (ca - m) (la - m) _ (A.drop m) hA2.symm (by omega) (by omega) (fun h => ⟨ha2 (by omega), by have := (hsp (by omega)).2; have := hBl.size; omega, fun hm => by have := T.new _ hm; have := (hsp (by omega)).2; omega⟩) (fun j hj => by
      rw [show o0 + m + j = o0 + (m + j) by omega, hBl.cell (p := ⟨b0, o0 + (m + j), none⟩) (hsp (by omega)).2, hce (m + j) (by omega)]
      simp [List.getD, List.getElem?_drop]) (q2 _ _ m (by omega))) ?_
    rw [List.take_append_drop]
    clear T hBl hcut1 hcut2 ha2 hA1 hA2 hsp hce
    rintro e w5 ⟨rfl, l5, T⟩
    go_wp2_with fail
    refine Calls.mono (make_O T sY (by decide) (q4 _ _)) ?_
    clear T
    rintro e w6 ⟨rfl, l6, T⟩
    go_wp2_with fail
    have hBl := T.below
    obtain ⟨b1, o1, hsp, hce⟩ := HB.out.spot
    have hszb := HB.out.size
    have hleb := HB.out.le
    refine Calls.mono (append_O T sY b1 o1 cb lb _ B hszb.symm (by omega) (by omega) (fun h => ⟨(hsp (by omega)).1, by have := (hsp (by omega)).2; have := hBl.size; omega, fun hm => by have := T.new _ hm; have := (hsp (by omega)).2; omega⟩) (fun j hj => by
      rw [hBl.cell (p := ⟨b1, o1 + j, none⟩) (hsp (by omega)).2, hce j (by omega)]) (q5 _ _ _ (by omega))) ?_
    clear T hBl hsp hce
    rintro e w7 ⟨rfl, l7, T⟩
    have T1 : OneR w (w7.alloc ring) D l7 (on2 sX A m sY B 0) w7.heap.size ring :=
      ⟨T.quiet ((Below.refl _ _).alloc (Nat.le_refl _) _), fun h => by have := T.one.lt _ h; omega, heap_alloc_new w7 _⟩
    go_wp2_with fail
    obtain ⟨R, hR⟩ : ∃ R, R = w7.heap.size := ⟨_, rfl⟩
    rw [← hR] at T1 ⊢
    clear hR T
    have mX : sX.size ≤ maxLen := by decide
    have mT : sT.size ≤ maxLen := by decide
    have mY : sY.size ≤ maxLen := by decide
    have k1 : IntKind.i64.wrap 1 = 1 := by decide
    have k2 : IntKind.i64.wrap 2 = 2 := by decide
    have k4 : IntKind.i64.wrap 4 = 4 := by decide
    have k5 : IntKind.i64.wrap 5 = 5 := by decide
    go_loopw [9, 10, 11, 12, 13, 14] (fun i _ _ _ _ _ wr => (i = .int .i64 0 ∧ ∃ l, OneR w wr D l (on2 sX A m sY B 0) R ring) ∨ (i = .int .i64 3 ∧ ∃ l, OneR w wr D l (on2 sY A m sX B 0) R ring) ∨ (i = .int .i64 6 ∧ ∃ l, OneR w wr D l (on2 sX A m sY B 0) R ring)) (fun i _ _ _ _ _ _ => 6 - (intOf i).toNat)
    case atStart => exact .inl ⟨rfl, _, T1⟩
    case round =>
      rcases hrel with ⟨rfl, l, T⟩ | ⟨rfl, l, T⟩ | ⟨rfl, l, T⟩
      · clear T1
        obtain ⟨r0, r1, r2⟩ := T.ring0
        go_upto_region 11 with fail
        go_cut [116] from 69 to 169 (fun v wc => v = .bool false ∧ ∃ l, OneR w wc D l (on2 sY A m sX B 0) R ring)
        case first =>
          go_region_held3 (fun W => W.cell? ⟨R, 0, none⟩ = some (.string sX) ∧ W.cell? ⟨R, 1, none⟩ = some (.string sT) ∧ W.cell? ⟨R, 2, none⟩ = some (.string sY)) (exact ⟨r0, r1, r2⟩)
            (first
            | (go_at_call 28; with_reducible refine Calls.mono (rename_R T.drew sX sT mT (q6 A B m)) ?_; clear T r0 r1 r2; rintro e w1 ⟨rfl, l1, T⟩; obtain ⟨r0, r1, r2⟩ := T.ring0)
            | (go_at_call 28; with_reducible refine Calls.mono (rename_R T sY sX mX (q7 A B m)) ?_; clear T r0 r1 r2; rintro e w1 ⟨rfl, l1, T⟩; obtain ⟨r0, r1, r2⟩ := T.ring0)
            | (go_at_call 28; with_reducible refine Calls.mono (rename_R T sT sY mY (q8 A B m)) ?_; clear T r0 r1 r2; rintro e w1 ⟨rfl, l1, T⟩; obtain ⟨r0, r1, r2⟩ := T.ring0))
          go_wp2_with fail
          go_meet
          exact ⟨rfl, _, T⟩
        case rest =>
          obtain ⟨rfl, l2, T⟩ := hcut
          go_wp2_with fail
          have hr := readM_any T.one.one sX
          rw [q14] at hr
          refine Calls.mono hr ?_
          clear hr
          rintro e w13 ⟨v1, rfl, hv1, hB1⟩
          have T := T.quiet hB1
          go_wp2_with fail
          have hr := readM_any T.one.one sY
          rw [q15] at hr
          refine Calls.mono hr ?_
          clear hr
          rintro e w14 ⟨v2, rfl, hv2, hB2⟩
          have T := T.quiet hB2
          go_wp2_with fail
          have hr := names_any T.one.one
          rw [q17] at hr
          refine Calls.mono hr ?_
          clear hr
          rintro e w15 ⟨v3, rfl, hv3, hB3⟩
          have T := T.quiet hB3
          obtain ⟨g, cap, rfl, hg0, hg1⟩ := two_names hv3
          have hc1 := bytes_string (hv1.below (hB2.trans (hB3.mono hB2.size)))
          have hc2 := bytes_string (hv2.below hB3)
          have hc3 := (HA.out.below T.one.below).string
          have hc4 := (HB.out.below T.one.below).string
          have HT := Lib.hid T
          have x1 := sX_list
          have y1 := sY_list
          clear hv1 hv2 hv3 hB1 hB2 hB3 T
          go_wp2
          go_roundw
          case rel => exact .inr (.inl ⟨by go_num, _, HT.out⟩)
          case measure => simp [intOf]
      · clear T1
        obtain ⟨r0, r1, r2⟩ := T.ring1
        go_upto_region 11 with fail
        go_cut [116] from 69 to 169 (fun v wc => v = .bool false ∧ ∃ l, OneR w wc D l (on2 sX A m sY B 0) R ring)
        case first =>
          go_region_held3 (fun W => W.cell? ⟨R, 3, none⟩ = some (.string sX) ∧ W.cell? ⟨R, 4, none⟩ = some (.string sT) ∧ W.cell? ⟨R, 5, none⟩ = some (.string sY)) (exact ⟨r0, r1, r2⟩)
            (first
            | (go_at_call 28; with_reducible refine Calls.mono (rename_R T.drew sX sT mT (q9 A B m)) ?_; clear T r0 r1 r2; rintro e w1 ⟨rfl, l1, T⟩; obtain ⟨r0, r1, r2⟩ := T.ring1)
            | (go_at_call 28; with_reducible refine Calls.mono (rename_R T sY sX mX (q10 A B m)) ?_; clear T r0 r1 r2; rintro e w1 ⟨rfl, l1, T⟩; obtain ⟨r0, r1, r2⟩ := T.ring1)
            | (go_at_call 28; with_reducible refine Calls.mono (rename_R T sT sY mY (q11 A B m)) ?_; clear T r0 r1 r2; rintro e w1 ⟨rfl, l1, T⟩; obtain ⟨r0, r1, r2⟩ := T.ring1))
          go_wp2_with fail
          go_meet
          exact ⟨rfl, _, T⟩
        case rest =>
          obtain ⟨rfl, l2, T⟩ := hcut
          go_wp2_with fail
          have hr := readM_any T.one.one sX
          rw [q12] at hr
          refine Calls.mono hr ?_
          clear hr
          rintro e w13 ⟨v1, rfl, hv1, hB1⟩
          have T := T.quiet hB1
          go_wp2_with fail
          have hr := readM_any T.one.one sY
          rw [q13] at hr
          refine Calls.mono hr ?_
          clear hr
          rintro e w14 ⟨v2, rfl, hv2, hB2⟩
          have T := T.quiet hB2
          go_wp2_with fail
          have hr := names_any T.one.one
          rw [q16] at hr
          refine Calls.mono hr ?_
          clear hr
          rintro e w15 ⟨v3, rfl, hv3, hB3⟩
          have T := T.quiet hB3
          obtain ⟨g, cap, rfl, hg0, hg1⟩ := two_names hv3
          have hc1 := bytes_string (hv1.below (hB2.trans (hB3.mono hB2.size)))
          have hc2 := bytes_string (hv2.below hB3)
          have hc3 := (HA.out.below T.one.below).string
          have hc4 := (HB.out.below T.one.below).string
          have HT := Lib.hid T
          have x1 := sX_list
          have y1 := sY_list
          clear hv1 hv2 hv3 hB1 hB2 hB3 T
          go_wp2
          go_roundw
          case rel => exact .inr (.inr ⟨by go_num, _, HT.out⟩)
          case measure => simp [intOf]
      · clear T1
        go_wp2_with fail
        have hr := sureM_any T.one.one sX
        rw [q18] at hr
        refine Calls.mono hr ?_
        clear hr
        rintro e w13 ⟨rfl, hB1⟩
        have T := T.quiet hB1
        go_wp2_with fail
        have hr := readM_any T.one.one sX
        rw [q12] at hr
        refine Calls.mono hr ?_
        clear hr
        rintro e w14 ⟨v2, rfl, hv2, hB2⟩
        have T := T.quiet hB2
        have hc2 := bytes_string hv2
        have hc3 := (HA.out.below T.one.below).string
        clear hv2 hB1 hB2
        go_wp2_with fail
        refine Calls.mono (rename_R T sY sX mX (q19 A B m)) ?_
        clear T
        rintro e w15 ⟨rfl, l15, T⟩
        go_wp2_with fail
        refine Calls.mono (rename_R T sX sX mX (q20 B)) ?_
        clear T
        rintro e w16 ⟨rfl, l16, T⟩
        go_wp2_with fail
        have hr := readM_any T.one.one sX
        rw [q21] at hr
        refine Calls.mono hr ?_
        clear hr
        rintro e w17 ⟨v3, rfl, hv3, hB3⟩
        have T := T.quiet hB3
        go_wp2_with fail
        have hr := readM_any T.one.one sY
        rw [q22] at hr
        refine Calls.mono hr ?_
        clear hr
        rintro e w18 ⟨v4, rfl, hv4, hB4⟩
        have T := T.quiet hB4
        have hc5 := bytes_string (hv3.below hB4)
        have hc4 := (HB.out.below T.one.below).string
        clear hv3 hv4 hB3 hB4
        go_wp2_with fail
        refine Calls.mono (wakes_any w18) ?_
        rintro e w19 ⟨rfl, hB5⟩
        have HT := Lib.hid (T.quiet hB5).one.below
        clear T hB5
        go_wp2
        go_ret
        exact ⟨rfl, HT.out⟩

end Go.Proofs.Ytgbbbjddooiaeaa
