/-
  The document's Begin.
-/
import Derived.Test.YtninhjeiialbjaaFx3
namespace Go.Proofs.Ytninhjeiialbjaa
open Go.RowKit
set_option linter.unusedSimpArgs false
set_option linter.unusedVariables false

theorem RBox.drew {w A : World} {base term : Int} {v : Value} (q : RBox w base term v A) : RBox w base term v A.drew := ⟨q.1, q.2.1, q.2.2.drew⟩

set_option maxRecDepth 100000 in
set_option maxHeartbeats 2000000 in
theorem rlast_ok (base term : Int) (a : Option Addr) (len cap b o : Nat) (E : Nat → Ent) (w : World) (hs : EntsIn w a len cap b o E) (hk : rowsB base term len E = true) :
    Calls Try.prog 32 #[.agg #[.int .i64 base, .int .i64 term, .slice a len cap]] w fun e w' => e = .returned (.tuple #[.int .i64 (base + len), .int .i64 (lastT term len E)]) ∧ Below w.heap.size w w' := by
  obtain ⟨b0, b1, h1, t0⟩ := rB_head hk
  have hm := hs.max
  have hl := hs.le
  unfold maxLen at hm
  have HS := Lib.hid hs
  have he := rE_ok hk
  clear hs hk
  have cur := RBox.mk0 w base term (.slice a len cap)
  by_cases hz : len = 0
  · have e1 : base + (len : Int) = base := by omega
    have e2 : lastT term len E = term := by unfold lastT; rw [if_pos hz]
    rw [e1, e2]
    have d1 : ((len : Int) == 0) = true := by rw [beq_iff_eq]; omega
    clear e1 e2 hz
    go_enter Try.func32, Try.ntmps32
    go_wp2_with (go_at_call 31; refine (rcheck_any _ _ _ _ _ _ _ _ _ (HS.out.below cur.2.2)).mono ?_; rw [he]; rintro e W ⟨rfl, hW⟩; have cur := cur.step hW; obtain ⟨⟨f0, f1, f2⟩, f3, f4⟩ := id cur)
    all_goals
      try go_quiet (fail)
      try go_wp2_with fail
      go_ret2
      exact ⟨rfl, by first | exact f4 | exact f4.drew | exact belowN f4 _⟩
  · obtain ⟨n, hn⟩ : ∃ n, n = len - 1 := ⟨_, rfl⟩
    have e2 : lastT term len E = (E n).t := by unfold lastT; rw [if_neg hz, hn]
    rw [e2]
    have d1 : ((len : Int) == 0) = false := by rw [beq_eq_false_iff_ne]; omega
    have s1 : IntKind.i64.wrap (base + len) = base + len := IntWalk.i64_in _ (by omega)
    have s2 : IntKind.i64.wrap ((len : Int) - 1) = n := (IntWalk.i64_in _ (by omega)).trans (by omega)
    have s3 : n < len := by omega
    obtain ⟨e0, e1⟩ := HS.out.at_ (by omega)
    subst e0
    clear e2 hn hz
    go_enter Try.func32, Try.ntmps32
    go_wp2_with (go_at_call 31; refine (rcheck_any _ _ _ _ _ _ _ _ _ (HS.out.below cur.2.2)).mono ?_; rw [he]; rintro e W ⟨rfl, hW⟩; have cur := cur.step hW; obtain ⟨⟨f0, f1, f2⟩, f3, f4⟩ := id cur; obtain ⟨c0, _⟩ := (HS.out.below f4).cell n s3)
    all_goals
      try go_quiet (fail)
      try go_wp2_with fail
      go_ret2
      exact ⟨rfl, by first | exact f4 | exact f4.drew | exact belowN f4 _⟩


set_option maxRecDepth 100000 in
set_option maxHeartbeats 4000000 in
theorem bit_any (s : Int) (h0 : 0 ≤ s) (h1 : s ≤ 255) (k : Nat) (hk : k < 7) (w : World) : Calls Try.prog 63 #[.int .u8 s, .int .i64 ((k + 1 : Nat) : Int)] w fun e w' => e = .returned (.bool (bitB s k)) ∧ w = w' := by
  have hcs : k = 0 ∨ k = 1 ∨ k = 2 ∨ k = 3 ∨ k = 4 ∨ k = 5 ∨ k = 6 := by omega
  rcases hcs with rfl | rfl | rfl | rfl | rfl | rfl | rfl
  · have hb : (bits .and .u8 s 1 == 1) = bitB s 0 := by simp [bitB]
    obtain ⟨q, hq⟩ : ∃ q, q = bitB s 0 := ⟨_, rfl⟩
    rw [← hq] at hb ⊢
    clear hq
    go_enter Try.func63, Try.ntmps63
    go_wp2_with fail
    go_ret
    exact ⟨rfl, rfl⟩
  · have hb : (bits .and .u8 (s / 2) 1 == 1) = bitB s 1 := by simp [bitB]
    obtain ⟨q, hq⟩ : ∃ q, q = bitB s 1 := ⟨_, rfl⟩
    rw [← hq] at hb ⊢
    clear hq
    go_enter Try.func63, Try.ntmps63
    go_wp2_with fail
    go_ret
    exact ⟨rfl, rfl⟩
  · have hb : (bits .and .u8 (s / 4) 1 == 1) = bitB s 2 := by simp [bitB]
    obtain ⟨q, hq⟩ : ∃ q, q = bitB s 2 := ⟨_, rfl⟩
    rw [← hq] at hb ⊢
    clear hq
    go_enter Try.func63, Try.ntmps63
    go_wp2_with fail
    go_ret
    exact ⟨rfl, rfl⟩
  · have hb : (bits .and .u8 (s / 8) 1 == 1) = bitB s 3 := by simp [bitB]
    obtain ⟨q, hq⟩ : ∃ q, q = bitB s 3 := ⟨_, rfl⟩
    rw [← hq] at hb ⊢
    clear hq
    go_enter Try.func63, Try.ntmps63
    go_wp2_with fail
    go_ret
    exact ⟨rfl, rfl⟩
  · have hb : (bits .and .u8 (s / 16) 1 == 1) = bitB s 4 := by simp [bitB]
    obtain ⟨q, hq⟩ : ∃ q, q = bitB s 4 := ⟨_, rfl⟩
    rw [← hq] at hb ⊢
    clear hq
    go_enter Try.func63, Try.ntmps63
    go_wp2_with fail
    go_ret
    exact ⟨rfl, rfl⟩
  · have hb : (bits .and .u8 (s / 32) 1 == 1) = bitB s 5 := by simp [bitB]
    obtain ⟨q, hq⟩ : ∃ q, q = bitB s 5 := ⟨_, rfl⟩
    rw [← hq] at hb ⊢
    clear hq
    go_enter Try.func63, Try.ntmps63
    go_wp2_with fail
    go_ret
    exact ⟨rfl, rfl⟩
  · have hb : (bits .and .u8 (s / 64) 1 == 1) = bitB s 6 := by simp [bitB]
    obtain ⟨q, hq⟩ : ∃ q, q = bitB s 6 := ⟨_, rfl⟩
    rw [← hq] at hb ⊢
    clear hq
    go_enter Try.func63, Try.ntmps63
    go_wp2_with fail
    go_ret
    exact ⟨rfl, rfl⟩

set_option maxRecDepth 100000 in
set_option maxHeartbeats 4000000 in
theorem rbegin_bad (base term : Int) (a : Option Addr) (len cap b o : Nat) (E : Nat → Ent) (set self : Int) (w : World) (hs : EntsIn w a len cap b o E) (hk : rowsB base term len E = false) :
    Calls Try.prog 21 #[.agg #[.int .i64 base, .int .i64 term, .slice a len cap], .int .u8 set, .int .i64 self] w fun e w' => e = .returned (.slice none 0 0) ∧ Below w.heap.size w w' := by
  have CUR := Lib.hid (RBox.mk0 w base term (.slice a len cap))
  have CC := Lib.hid (fun W (h : Below w.heap.size w W) => rcheck_any base term a len cap b o E W (hs.below h))
  rw [rE_bad hk] at CC
  clear hs hk
  go_enter Try.func21, Try.ntmps21
  go_wp2_with fail
  go_at_call 31
  refine (CC.out _ CUR.out.2.2).mono ?_
  rintro e W3 ⟨rfl, hW3⟩
  have C4 := Lib.hid (CUR.out.step hW3)
  clear hW3
  go_wp2_with fail
  go_ret
  exact ⟨rfl, C4.out.2.2⟩

set_option maxRecDepth 100000 in
set_option maxHeartbeats 8000000 in
theorem rbegin_ok (base term : Int) (a : Option Addr) (len cap b o : Nat) (E : Nat → Ent) (set self : Int) (w : World) (hs : EntsIn w a len cap b o E) (h0 : 0 ≤ set) (h1 : set ≤ 255) (hk : rowsB base term len E = true) :
    Calls Try.prog 21 #[.agg #[.int .i64 base, .int .i64 term, .slice a len cap], .int .u8 set, .int .i64 self] w fun e w' => ∃ v ob, e = .returned v ∧ Row w' v ob 26 3 (begL self (base + len + 1) (memF set 7)).length (pgVs (begL self (base + len + 1) (memF set 7))) ∧ (∀ g, ob = some g → w.heap.size ≤ g) ∧ Below w.heap.size w w' := by
  have CUR := Lib.hid (RBox.mk0 w base term (.slice a len cap))
  obtain ⟨b0, b1, h4, t0⟩ := rB_head hk
  have CL := Lib.hid (fun W (h : Below w.heap.size w W) => rlast_ok base term a len cap b o E W (hs.below h) hk)
  have CC := Lib.hid (fun W (h : Below w.heap.size w W) => rcheck_any base term a len cap b o E W (hs.below h))
  rw [rE_ok hk] at CC
  have CB := Lib.hid (fun k (h : k < 7) W => bit_any set h0 h1 k h W)
  obtain ⟨lt, hlt⟩ : ∃ lt, lt = lastT term len E := ⟨_, rfl⟩
  rw [← hlt] at CL
  obtain ⟨la, hla⟩ : ∃ la, la = base + (len : Int) := ⟨_, rfl⟩
  rw [← hla] at CL ⊢
  have hla1 : 0 ≤ la := by omega
  have hla2 : la ≤ 1099511627776 := by omega
  obtain ⟨i0, hi, hz0, hz1, hz2⟩ := info_parts pgZero
  have HI := Lib.hid hi
  have HZ0 := Lib.hid hz0
  have HZ1 := Lib.hid hz1
  have HZ2 := Lib.hid hz2
  clear hi hz0 hz1 hz2 hs hk hlt hla
  go_enter Try.func21, Try.ntmps21
  go_wp2_with fail
  go_at_call 31
  refine (CC.out _ CUR.out.2.2).mono ?_
  rintro e W ⟨rfl, hW⟩
  have C2 := Lib.hid (CUR.out.step hW)
  clear hW
  obtain ⟨⟨f0, f1, f2⟩, f3, _⟩ := id C2.out
  go_wp2_with fail
  go_at_call 32
  refine (CL.out _ C2.out.2.2).mono ?_
  rintro e W3 ⟨rfl, hW2⟩
  have C4 := Lib.hid (C2.out.step hW2)
  clear hW2 f0 f1 f2 f3
  obtain ⟨B1, hB1⟩ : ∃ B1, B1 = W3.heap.size := ⟨_, rfl⟩
  have HB1 := Lib.hid hB1
  clear hB1
  go_wp2_with fail
  go_loopw [9, 10] (fun vm i wr => ∃ (k : Nat) (om : Option Nat), k ≤ 7 ∧ i = .int .i64 ((k + 1 : Nat) : Int) ∧ Row wr vm om 26 3 (begL self (la + 1) (memF set k)).length (pgVs (begL self (la + 1) (memF set k))) ∧ (∀ g, om = some g → B1 ≤ g) ∧ Below B1 W3 wr) (fun _ i _ => 8 - (intOf i).toNat)
  case atStart => exact ⟨0, none, Nat.zero_le _, rfl, Row.nil _ _ _, (fun _ h => by cases h), by rw [HB1.out]; exact Below.refl _ _⟩
  case round =>
    obtain ⟨k, om, hk, rfl, hrm, hgm, hBm⟩ := hrel
    have HRM := Lib.hid hrm
    have HGM := Lib.hid hgm
    have HBM := Lib.hid hBm
    clear hrm hgm hBm
    obtain ⟨n, hn⟩ : ∃ n, n = k + 1 := ⟨_, rfl⟩
    rw [← hn]
    by_cases hlt : k < 7
    · have hbl : begL self (la + 1) (memF set (k + 1)) = begL self (la + 1) (memF set k) ++ if bitB set k = true ∧ (n : Int) ≠ self then [⟨n, 0, la + 1⟩] else [] := by
        rw [hn, show memF set (k + 1) = memF set k ++ if bitB set k = true then [k + 1] else [] from rfl]
        cases hb : bitB set k
        · simp
        · simp only [if_true]
          rw [begL_snoc]
          congr 1
          by_cases hse : ((k + 1 : Nat) : Int) = self
          · rw [if_pos hse, if_neg (fun h => h.2 hse)]
          · rw [if_neg hse, if_pos ⟨trivial, hse⟩]
      have hcnt : (begL self (la + 1) (memF set k)).length ≤ 7 := by have h7 := begL_len self (la + 1) (memF set k); have h8 := memF_len set k; omega
      have HCB := Lib.hid (CB.out k hlt)
      rw [← hn] at HCB
      obtain ⟨bl, hbl2⟩ : ∃ bl, bl = begL self (la + 1) (memF set k) := ⟨_, rfl⟩
      rw [← hbl2] at hbl hcnt HRM
      obtain ⟨q, hq⟩ : ∃ q, q = bitB set k := ⟨_, rfl⟩
      rw [← hq] at hbl HCB
      have HBL := Lib.hid hbl
      have hn7 : n ≤ 7 := by omega
      have HNK := Lib.hid hn
      clear hbl hbl2 hq hn
      by_cases hse : (n : Int) = self
      · have d1 : (((n : Nat) : Int) != self) = false := by simpa using hse
        have hbe := HBL.out
        rw [if_neg (fun h => h.2 hse), List.append_nil] at hbe
        have HBE := Lib.hid hbe
        clear hse hbe
        go_wp2_with fail
        go_roundw
        case rel => exact ⟨k + 1, om, by omega, by rw [HNK.out]; go_num, by rw [HBE.out]; exact HRM.out, HGM.out, HBM.out⟩
        case measure => have := HNK.out; first | (simp [intOf]; done) | (simp [intOf]; omega)
      · have d1 : (((n : Nat) : Int) != self) = true := by simpa using hse
        cases q
        · have hbe := HBL.out
          rw [if_neg (fun h => by cases h.1), List.append_nil] at hbe
          have HBE := Lib.hid hbe
          clear hse hbe
          go_wp2_with fail
          go_at_call 63
          refine (HCB.out _).mono ?_
          rintro e W9 ⟨rfl, rfl⟩
          go_wp2_with fail
          go_roundw
          case rel => exact ⟨k + 1, om, by omega, by rw [HNK.out]; go_num, by rw [HBE.out]; exact HRM.out, HGM.out, HBM.out⟩
          case measure => have := HNK.out; first | (simp [intOf]; done) | (simp [intOf]; omega)
        · have hbe := HBL.out
          rw [if_pos ⟨rfl, hse⟩] at hbe
          have HBE := Lib.hid hbe
          clear hse hbe
          go_wp2_with fail
          go_at_call 63
          refine (HCB.out _).mono ?_
          rintro e W9 ⟨rfl, rfl⟩
          go_wp2_with (at_builtin; refine wpList_append_row _ rfl (.tmp 31) (.tmp 36) 27 rfl 26 i0 _ 3 24 Try.underlying27 HI.out HZ0.out HZ1.out HZ2.out rfl (by decide) _ om bl.length (pgVs bl) rfl (HRM.out.alloc _) ⟨wr.heap.size, 0, none⟩ 1 1 [.int .i64 ((n : Nat) : Int), .int .i64 0, .int .i64 (la + 1)] rfl (by decide) rfl ?c1 ?c2 ?c3 ?c4 ?_)
          case c1 => exact fw_cells wr _ _
          case c2 => intro u hu; exact (List.all_eq_true (p := fun u : Value => u.oneCell')).1 rfl u hu
          case c3 => unfold maxLen; omega
          case c4 => omega
          intro v5 ob5 W5 hrow5 hg5 hob5
          have HR5 := Lib.hid hrow5
          have HG5 := Lib.hid hg5
          have HO5 := Lib.hid hob5
          clear hrow5 hg5 hob5
          go_wp2_with fail
          go_roundw
          case rel =>
            have hsm := HBM.out.size
            have hb1 := HB1.out
            refine ⟨k + 1, some ob5, by omega, by rw [HNK.out]; go_num, ?_, ?_, (HBM.out.alloc (by omega) _).grown HG5.out (by simp; omega) (fun g e => HGM.out g e)⟩
            · rw [HBE.out, List.length_append]
              unfold pgVs
              rw [List.flatMap_append]
              exact HR5.out
            · intro g e
              obtain rfl := Option.some.inj e
              rcases HO5.out with h | h
              · exact HGM.out _ h
              · first | omega | (simp at h; omega)
          case measure => have := HNK.out; first | (simp [intOf]; done) | (simp [intOf]; omega)
    · obtain rfl : k = 7 := by omega
      obtain rfl : n = 8 := hn
      have hb9 := HB1.out
      have hs9 := C4.out.2.2.size
      go_wp2_with fail
      go_ret
      exact ⟨_, om, rfl, HRM.out, fun g hg => by have := HGM.out g hg; omega, C4.out.2.2.trans (HBM.out.mono (by omega))⟩
end Go.Proofs.Ytninhjeiialbjaa
