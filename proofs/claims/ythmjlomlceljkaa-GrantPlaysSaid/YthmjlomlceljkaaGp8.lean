/-
  Leases gone: the program.
-/
import Derived.Test.YthmjlomlceljkaaGp7
import Derived.Maps.RangeWalk
namespace Go.Proofs.Ythmjlomlceljkaa
open Go.RowKit Go.ChangeMaps
set_option linter.unusedSimpArgs false
set_option linter.unusedVariables false

/-- what a copy has laid so far -/
def cpF (M : Int → Option Int) (left : List (Int × Value × Nat)) (x : Int) : Option Value := if x ∈ left.map (·.1) then none else (M x).map encI
set_option maxRecDepth 100000 in
set_option maxHeartbeats 4000000 in
theorem scopy_ok (b s : Nat) (M : Int → Option Int) (w : World) (hs : MapS w s (fun x => (M x).map encI)) (hb : MapS w b (fun _ => none)) (hne : b ≠ s) :
    Calls Try.prog 32 #[.map (some b), .map (some s)] w fun e w' => e = .returned (.tuple #[]) ∧ MapS w' b (fun x => (M x).map encI) ∧ Fr [b] w w' := by
  obtain ⟨W1, L, hrg, h1, hB1, hs1, hk, hM, hl0⟩ := rng_start hs Try.underlying71
  have hb1 := hb.congr (hB1.block b hb.lt)
  have hF1 : Fr [b] w W1 := (Fr.of_below hB1).mono (by simp)
  have hbl := hb.lt
  have hsl := hs.lt
  obtain ⟨r, hr⟩ : ∃ r, r = w.heap.size := ⟨_, rfl⟩
  rw [← hr] at hrg h1
  have HRR : Hid (b < r ∧ s < r ∧ r < W1.heap.size ∧ w.heap.size ≤ r) := Lib.hid ⟨by omega, by omega, by omega, by omega⟩
  have HR1 := Lib.hid h1
  have HF1 := Lib.hid hF1
  have HB1 := Lib.hid hb1
  have HK := Lib.hid hk
  have HM := Lib.hid hM
  have HL0 := Lib.hid hl0
  clear hs hb hbl hsl h1 hF1 hb1 hB1 hs1 hk hM hl0 hr
  go_enter Try.func32, Try.ntmps32
  go_wp2_with fail
  go_loopw [8] (fun _ wr => ∃ seen : Array Nat, RngS wr s r L seen ∧ MapS wr b (cpF M (lft L seen)) ∧ Fr [b, r] W1 wr) (fun _ wr => wr.rangeLeft s r)
  case atStart =>
    refine ⟨#[], HR1.out, HB1.out.fun_eq fun x => ?_, Fr.refl _ _⟩
    unfold cpF
    rw [HL0.out]
    by_cases hx : x ∈ L.map (·.1)
    · rw [if_pos hx]
    · rw [if_neg hx, ← HM.out x, findL_out L 0 hx]; rfl
  case round =>
    obtain ⟨seen, hg, hm, hf⟩ := hrel
    have hle := hg.left_eq
    rcases rng_next (P := Try.prog) hg 0 with ⟨h0, hrun⟩ | ⟨x, v, st, w2, hmem, hrun, hg2, hf2, hz2, hen⟩
    · have hrun2 : ∀ ty, (Instr.next (.pointer (some ⟨r, 0, none⟩)) false ty).run Try.prog wr = .ok (.tuple #[.bool false]) wr := fun ty => hrun
      have HM2 := Lib.hid (hm.fun_eq (M' := fun x => (M x).map encI) fun x => by unfold cpF; rw [h0]; simp)
      have HF2 := Lib.hid hf
      clear h0 hrun hm hf hg hle
      go_wp2_with fail
      go_end0
      exact ⟨rfl, HM2.out, HF1.out.trans HF2.out (fun x hx => by have := HRR.out; simp at hx ⊢; omega)⟩
    · have hrun2 : ∀ ty, (Instr.next (.pointer (some ⟨r, 0, none⟩)) false ty).run Try.prog wr = .ok (.tuple #[.bool true, encI x, v]) w2 := fun ty => hrun
      have hmL : (x, v, st) ∈ L := (List.mem_filter.1 hmem).1
      have hbr : b ≠ r := by have := HRR.out; omega
      have hm2 := hm.congr (hf2.block b hm.lt (by simpa using hbr))
      have hv : (M x).map encI = some v := by rw [← HM.out x]; exact findL_mem L 0 HK.out hmL
      have hx1 : ∃ y, M x = some y ∧ v = .int .i64 y := by
        cases hq : M x with
        | none => rw [hq] at hv; cases hv
        | some y => rw [hq] at hv; exact ⟨y, rfl, (Option.some.inj hv).symm⟩
      obtain ⟨y, hy, rfl⟩ := hx1
      obtain ⟨W3, hup, hm3, hf3, hz3⟩ := hm2.put key_i Try.underlying71 x (.int .i64 y)
      have hg3 := hg2.congr (w' := W3) (hf3.block s (by have := HRR.out; have := hf.size; omega) (by simpa using fun e => hne e.symm)) (hf3.block r (by have := HRR.out; have := hf.size; omega) (by simpa using fun e => hbr e.symm))
      have hle3 := hg3.left_eq
      have hlt := lft_push hmem
      have hcp : ∀ z, (if z = x then some (.int .i64 y) else cpF M (lft L seen) z) = cpF M (lft L (seen.push st)) z := by
        intro z
        unfold cpF
        have hk := lft_mem_push hg.nd hmem
        have hnin : x ∉ (lft L (seen.push st)).map (·.1) := by
          intro hc
          obtain ⟨q, hq, e⟩ := List.mem_map.1 hc
          obtain ⟨q1, q2⟩ := (hk q).1 hq
          exact q2 (nd_inj HK.out (List.mem_filter.1 q1).1 hmL e)
        by_cases hz : z = x
        · subst hz; rw [if_pos rfl, if_neg hnin, hy]; rfl
        · rw [if_neg hz]
          have : z ∈ (lft L (seen.push st)).map (·.1) ↔ z ∈ (lft L seen).map (·.1) := by
            constructor
            · intro h
              obtain ⟨q, hq, e⟩ := List.mem_map.1 h
              exact List.mem_map.2 ⟨q, ((hk q).1 hq).1, e⟩
            · intro h
              obtain ⟨q, hq, e⟩ := List.mem_map.1 h
              exact List.mem_map.2 ⟨q, (hk q).2 ⟨hq, fun e' => hz (by rw [← e, e'])⟩, e⟩
          simp only [this]
      have HM3 := Lib.hid (hm3.fun_eq hcp)
      have HG3 := Lib.hid hg3
      have HF3 := Lib.hid ((hf.trans hf2 (by simp)).trans hf3 (by simp))
      have HLT : Hid (W3.rangeLeft s r < wr.rangeLeft s r) := Lib.hid (by rw [hle3, hle]; exact hlt)
      unfold encI at hrun2 hen hup
      clear hrun hmem hmL hbr hm2 hv hm3 hf3 hz3 hg3 hle3 hlt hcp hg hm hf hle hg2 hf2 hz2 hy
      go_wp2_with fail
      go_roundw
      case rel => exact ⟨_, HG3.out, HM3.out, HF3.out⟩
      case measure => exact HLT.out
def goneM (Xs : List Int) (M : Int → Option Int) (x : Int) : Option Int := if x ∈ Xs then none else M x
set_option maxRecDepth 100000 in
set_option maxHeartbeats 4000000 in
theorem sgone_ok (w0 : World) (va : Value) (Xs : List Int) (hv : InV w0 va Xs) (g b : Nat) (el now la : Int) (M : Int → Option Int) (w : World) (hw : Below w0.heap.size w0 w) (hd : DkS w g b el now la M) :
    Calls Try.prog 13 #[.pointer (some ⟨g, 0, none⟩), va] w fun e w' => e = .returned (.int .i64 0) ∧ DkS w' g b el now la (goneM Xs M) ∧ Fr [b] w w' := by
  obtain ⟨xa, xn, xc, rfl, HXN, x1, x2⟩ := hv.sh
  have c3 : w.cell? ⟨g, 3, none⟩ = some (.map (some b)) := cell_at hd.blk 3
  have CL := Lib.hid (sclone_ok b _ w hd.map)
  have HV := Lib.hid hv
  have HW := Lib.hid hw
  have HD := Lib.hid hd
  obtain ⟨s, hs⟩ : ∃ s, s = w.heap.size := ⟨_, rfl⟩
  rw [← hs] at CL
  have hsz : w0.heap.size ≤ s ∧ g < s ∧ b < s := by have := hw.size; have := hd.blk.lt; have := hd.map.lt; omega
  have HSZ := Lib.hid hsz
  have HS := Lib.hid hs
  clear hv hw hd hsz hs
  go_enter Try.func13, Try.ntmps13
  go_wp2_with fail
  go_at_call 31
  go_fit (CL.out)
  rintro e W1 ⟨rfl, hm1, hB1, hz1⟩
  have HD1 := Lib.hid (HD.out.below (by rw [← HS.out]; exact hB1))
  have HM1 := Lib.hid hm1
  have HB1 := Lib.hid hB1
  clear hm1 hB1 hz1 c3 CL
  go_wp2_with fail
  go_loopw [17] (fun i wr => ∃ k : Nat, k ≤ xn ∧ i = .int .i64 k ∧ MapS wr s (fun x => (goneM (Xs.take k) M x).map encI) ∧ Fr [s] W1 wr) (fun i _ => xn - (intOf i).toNat)
  case atStart => exact ⟨0, Nat.zero_le _, rfl, HM1.out.fun_eq (fun x => by simp [goneM]), Fr.refl _ _⟩
  case round =>
    obtain ⟨k, hk, rfl, hm, hf⟩ := hrel
    have HF := Lib.hid hf
    by_cases hlt : k < xn
    · have hB : Below w0.heap.size w0 wr := by
        have h1 := HW.out.trans ((HB1.out).mono HSZ.out.1)
        exact h1.trans (hf.below h1.size (by simp; exact HSZ.out.1))
      obtain ⟨gb, o, y, ea, g1, hy, c0⟩ := (HV.out.below hB).at k hlt
      subst ea
      have ww5 : IntKind.i64.wrap ((k : Int) + 1) = (k : Int) + 1 := IntWalk.i64_in _ (by omega)
      have b9 : ((k : Int) < (xn : Int)) = True := eq_true (by omega)
      have bk1 : (k < xn) = True := eq_true hlt
      obtain ⟨W3, hdel, hm3, hf3, hz3⟩ := hm.del key_i Try.underlying71 y 3 0
      have hrun2 : ∀ ty, (Builtin.delete_ #[71, 3] ty #[.map (some s), .int .i64 y]).run Try.prog wr = .ok (.tuple #[]) W3 := fun ty => hdel
      have HM3 := Lib.hid (hm3.fun_eq (M' := fun x => (goneM (Xs.take (k + 1)) M x).map encI) fun x => by
        have ht : Xs.take (k + 1) = Xs.take k ++ [y] := by rw [List.take_add_one, hy]; rfl
        unfold goneM
        rw [ht]
        by_cases hx : x = y
        · subst hx; simp
        · simp [hx])
      have HF3 := Lib.hid (hf.trans hf3 (by simp))
      have HLT := Lib.hid hlt
      clear hm hf hy hdel hm3 hf3 hz3 hB hlt
      go_wp2_with fail
      go_roundw
      case rel => exact ⟨k + 1, by have := HLT.out; omega, by go_num, HM3.out, HF3.out⟩
      case measure => (have h8 := HLT.out; first | (simp [intOf]; done) | (simp [intOf]; omega))
    · obtain rfl : k = xn := by omega
      have hd2 : DkS wr g b el now la M := ⟨(hf.block g HD1.out.blk.lt (by have := HSZ.out; simp; omega)).trans HD1.out.blk, HD1.out.map.congr (hf.block b HD1.out.map.lt (by have := HSZ.out; simp; omega)), HD1.out.ne⟩
      have c3 : wr.cell? ⟨g, 3, none⟩ = some (.map (some b)) := cell_at hd2.blk 3
      obtain ⟨W3, hcl, hm3, hf3, hz3⟩ := hd2.map.clear Try.underlying71 0
      have hrun2 : ∀ ty, (Builtin.clear_ #[71] ty #[.map (some b)]).run Try.prog wr = .ok (.tuple #[]) W3 := fun ty => hcl
      have hk3 : Blk W3 g #[.int .i64 el, .int .i64 now, .int .i64 la, .map (some b)] 73 := (hf3.block g hd2.blk.lt (by simpa using hd2.ne)).trans hd2.blk
      have c4 : W3.cell? ⟨g, 3, none⟩ = some (.map (some b)) := cell_at hk3 3
      have hm4 := hm.congr (hf3.block s hm.lt (by have := HSZ.out; simp; omega))
      have CP := Lib.hid (scopy_ok b s _ W3 hm4 hm3 (by have := HSZ.out; omega))
      have HK3 := Lib.hid hk3
      have HF3 := Lib.hid ((hf.mono (l' := [s, b]) (by simp)).trans hf3 (by simp) : Fr [s, b] W1 W3)
      clear hd2 hcl hm hf hm3 hf3 hz3 hk3 hm4
      go_wp2_with fail
      go_at_call 32
      go_fit (CP.out)
      rintro e W5 ⟨rfl, hm5, hf5⟩
      have HX : Hid (Xs.take k = Xs) := Lib.hid (List.take_of_length_le (by rw [HXN.out]; exact Nat.le_refl _))
      have HR : Hid (DkS W5 g b el now la (goneM Xs M) ∧ Fr [b] w W5) := Lib.hid (by
        refine ⟨⟨(hf5.block g HK3.out.lt (by simpa using HD1.out.ne)).trans HK3.out, by rw [HX.out] at hm5; exact hm5, HD1.out.ne⟩, ?_⟩
        have h1 : Fr [] w W1 := Fr.of_below (by rw [← HS.out]; exact HB1.out)
        refine ((h1.mono (l' := [b]) (by simp)).trans HF3.out (fun x hx => ?_)).trans hf5 (fun x hx => .inl hx)
        have := HS.out
        simp at hx ⊢
        omega)
      clear hm5 hf5
      go_wp2_with fail
      go_ret
      exact ⟨rfl, HR.out⟩
end Go.Proofs.Ythmjlomlceljkaa
