/-
  A ring's iterator: the packets in their order, as they lie in its slots.
-/
import Derived.Test.YtninhjeiialbjaaPli
import Derived.Test.YtninhjeiialbjaaHin
import Derived.Test.YtninhjeiialbjaaRh
namespace Go.Proofs.Ytninhjeiialbjaa
open Go.RowKit Go.Shelf
set_option linter.unusedSimpArgs false
set_option linter.unusedVariables false

attribute [local go_sem] Oper.semAt_some

theorem QIn.frB {W W' : World} {D R o room f n : Nat} {by_ dr : Int} {E : Nat → PkE} {m : Nat} {l : List Nat} (h : QIn W D R o room f n by_ dr E) (hF : FrB m l W W') (hD : D < m ∧ D ∉ l) (hR : R < m ∧ R ∉ l) (hb : ∀ j, j < n → 0 < (E j).n → (E j).b < m ∧ (E j).b ∉ l) : QIn W' D R o room f n by_ dr E := by
  obtain ⟨cur, h1, h2, h3⟩ := h.ring
  refine ⟨(hF.block D hD.1 hD.2).trans h.own, ⟨cur, (hF.block R hR.1 hR.2).trans h1, h2, h3⟩, h.ne, h.r1, h.r64, h.fl, h.nl, fun j hj => ?_⟩
  have hx := h.ld j hj
  exact ⟨⟨hx.by_.le, hx.by_.max, fun hk => ⟨(hx.by_.at_ hk).1, by have := (hx.by_.at_ hk).2; have := hF.size; omega⟩, fun k hk => (cell_congr (hF.block _ (hb j hj (by omega)).1 (hb j hj (by omega)).2) _).trans (hx.by_.cell k hk), hx.by_.bd⟩, hx.le, hx.d, hx.r⟩

theorem yn {e : Ending} {A B : Prop} (h : (e = .returned (.bool true) ∧ A) ∨ (e = .returned (.bool false) ∧ B)) : ∃ b, e = .returned (.bool b) ∧ (b = true → A) ∧ (b = false → B) := by
  rcases h with ⟨h1, h2⟩ | ⟨h1, h2⟩
  · exact ⟨true, h1, fun _ => h2, fun h => (by cases h)⟩
  · exact ⟨false, h1, (fun h => (by cases h)), fun _ => h2⟩

def fstE (E : Nat → PkE) (k : Nat) : List PkE := (List.range k).map E
theorem fstE_succ (E : Nat → PkE) (k : Nat) : fstE E (k + 1) = fstE E k ++ [E k] := by simp [fstE, List.range_succ]
theorem fstE_len (E : Nat → PkE) (k : Nat) : (fstE E k).length = k := by simp [fstE]

set_option maxRecDepth 100000 in
set_option maxHeartbeats 4000000 in
theorem ring1_in (nn : Nat) (hnn : 1 ≤ nn) (li Bs D R o room f n : Nat) (by_ dr : Int) (E : Nat → PkE) (J Jx : List PkE → World → Prop) (W : World) (hBs : Blk W Bs #[.pointer (some ⟨D, 0, none⟩)] 154) (hq : QIn W D R o room f n by_ dr E) (h0 : J [] W)
    (hJa : ∀ pre W, J pre W → J pre W.drew) (Kp : World → World → Prop) (hK1 : ∀ A B, Kp A B → Bs < W.heap.size → B.heap[Bs]? = A.heap[Bs]?) (hK2 : ∀ A B, Kp A B → QIn A D R o room f n by_ dr E → QIn B D R o room f n by_ dr E)
    (hY : ∀ pre x W1, J pre W1 → x = E pre.length → pre.length < n → YieldAt Fence.wide (nn - 1) Try.prog li (encPk x) W1 fun e W' =>
      (e = .returned (.bool true) ∧ J (pre ++ [x]) W' ∧ Kp W1 W') ∨ (e = .returned (.bool false) ∧ Jx (pre ++ [x]) W' ∧ Kp W1 W')) :
    CallsIn Fence.wide nn Try.prog 116 #[.func (.yield li) #[] #[], .pointer (some ⟨Bs, 0, none⟩)] W fun e W' => (∃ v, e = .returned v) ∧
      ((∃ ys, ys = fstE E n ∧ J ys W') ∨ (∃ pre, Jx pre W')) := by
  have c0 : W.cell? ⟨Bs, 0, none⟩ = some (.pointer (some ⟨D, 0, none⟩)) := cell_at hBs 0
  have c2 : W.cell? ⟨D, 2, none⟩ = some (.int .i64 (n : Nat)) := cell_at hq.own 2
  have l0 := hBs.lt
  have l1 := hq.own.lt
  have hr1 := hq.r1
  have hr64 := hq.r64
  have hfl := hq.fl
  have hnl := hq.nl
  have HK1 := Lib.hid (fun A B h => hK1 A B h hBs.lt)
  have HK2 := Lib.hid hK2
  have HY := Lib.hid hY
  have HJA := Lib.hid hJa
  have HQ := Lib.hid hq
  have HBS := Lib.hid hBs
  clear hBs hq hK1 hK2 hY hJa
  refine callsIn_of_wp Try.func116 rfl trivial ?_ rfl
  simp only [Try.ntmps116, List.size_toArray, List.length_cons, List.length_nil, Nat.reduceAdd, Nat.reduceSub, Array.replicate_succ, Array.replicate_zero, List.push_toArray, List.append_toArray, List.nil_append, List.cons_append]
  gi_wp2
  gi_loopw [8] (fun i wr => ∃ k : Nat, k ≤ n ∧ i = .int .i64 k ∧ J (fstE E k) wr ∧ QIn wr D R o room f n by_ dr E ∧ Blk wr Bs #[.pointer (some ⟨D, 0, none⟩)] 154) (fun i _ => n - (intOf i).toNat)
  case atStart => exact ⟨0, Nat.zero_le _, rfl, h0, HQ.out, HBS.out⟩
  case round =>
    obtain ⟨k, hk, rfl, hJ, hq, hbs⟩ := hrel
    by_cases hlt : k < n
    · have hlen := fstE_len E k
      obtain ⟨fn, tmps, assign, body, hy, hR⟩ := HY.out (fstE E k) (E k) wr.drew (HJA.out _ _ hJ) (by rw [hlen]) (by rw [hlen]; exact hlt)
      rw [← fstE_succ] at hR
      obtain ⟨cur, g1, g2, g3⟩ := hq.ring
      have hcell : ∀ i, i < 4 → wr.cell? ⟨R, o + (f + k) % room * 4 + i, none⟩ = (E k).cells[i]? := fun i hi => (cell_at g1 _).trans (g3 k hlt i hi)
      obtain ⟨x, hx⟩ : ∃ x, x = E k := ⟨_, rfl⟩
      rw [← hx] at hcell hy
      obtain ⟨q, hqq⟩ : ∃ q, q = (f + k) % room := ⟨_, rfl⟩
      have hq1 : q < room := by rw [hqq]; exact Nat.mod_lt _ (by omega)
      rw [← hqq] at hcell
      have d0 : wr.cell? ⟨R, o + q * 4, none⟩ = some (.int .i64 x.num) := hcell 0 (by omega)
      have d1 : wr.cell? ⟨R, o + q * 4 + 1, none⟩ = some (.int .i64 x.t) := hcell 1 (by omega)
      have d2 : wr.cell? ⟨R, o + q * 4 + 2, none⟩ = some (.int .i64 x.c) := hcell 2 (by omega)
      have d3 : wr.cell? ⟨R, o + q * 4 + 3, none⟩ = some (.slice x.a x.n x.ca) := hcell 3 (by omega)
      have e0 : wr.cell? ⟨D, 0, none⟩ = some (.slice (some ⟨R, o, none⟩) room room) := cell_at hq.own 0
      have e1 : wr.cell? ⟨D, 1, none⟩ = some (.int .i64 (f : Nat)) := cell_at hq.own 1
      have b0 : wr.cell? ⟨Bs, 0, none⟩ = some (.pointer (some ⟨D, 0, none⟩)) := cell_at hbs 0
      have k0 := hq.own.lt
      have k1 := g1.lt
      have k2 := hbs.lt
      have hw1 : IntKind.i64.wrap ((f : Int) + (k : Int)) = ((f : Int) + (k : Int)) := by rw [IntKind.wrap_i64]; omega
      have hz : (room = 0) = False := eq_false (by omega)
      have hmod : Int.tmod ((f : Int) + (k : Int)) (room : Int) = (q : Int) := by
        rw [hqq]
        rw [show ((f : Int) + (k : Int)) = ((f + k : Nat) : Int) by omega, Int.tmod_eq_emod_of_nonneg (by omega)]
        rfl
      have hy' : (Instr.yield li #[.agg #[.int .i64 x.num, .int .i64 x.t, .int .i64 x.c, .slice x.a x.n x.ca]]).run Try.prog wr.drew = .ok (.round li fn tmps assign body) wr.drew := hy
      have HX := Lib.hid (And.intro hqq hx)
      have HQR := Lib.hid hq
      have HBR := Lib.hid hbs
      clear hJ hq hbs g1 g2 g3 hcell hx hqq hy hlen
      gi_wp2_with fail
      refine wpIn_region_held (S := fun X => X.cell? ⟨Bs, 0, none⟩ = some (.pointer (some ⟨D, 0, none⟩)) ∧ X.cell? ⟨D, 0, none⟩ = some (.slice (some ⟨R, o, none⟩) room room) ∧ X.cell? ⟨D, 1, none⟩ = some (.int .i64 (f : Nat)) ∧ X.cell? ⟨R, o + q * 4, none⟩ = some (.int .i64 x.num) ∧ X.cell? ⟨R, o + q * 4 + 1, none⟩ = some (.int .i64 x.t) ∧ X.cell? ⟨R, o + q * 4 + 2, none⟩ = some (.int .i64 x.c) ∧ X.cell? ⟨R, o + q * 4 + 3, none⟩ = some (.slice x.a x.n x.ca) ∧ Bs < X.heap.size ∧ D < X.heap.size ∧ R < X.heap.size) (by kernel_rfl) (fun hHeld => ?_) ⟨b0, e0, e1, d0, d1, d2, d3, k2, k0, k1⟩
      ((refine wpAnyK_take (i := 0) (v := ?_) (by kernel_rfl) (by (simp only [List.getElem?_toArray, List.getElem?_cons_succ, List.getElem?_cons_zero]); rfl) (by kernel_rfl) (by kernel_rfl) (by kernel_rfl) (by exact fun _ _ _ h => h) ⟨Or.inl ⟨by rfl, ?_⟩, fun _ => rfl⟩ (by assumption) ?_); rotate_left; focus (intro wS hSw; (try dsimp only at hSw); go_simp; first | done | with_reducible rfl); try simp only [Act.put, List.setIfInBounds_toArray, List.set_cons_zero, List.set_cons_succ])
      ((refine wpAnyK_take (i := 1) (v := ?_) (by kernel_rfl) (by (simp only [List.getElem?_toArray, List.getElem?_cons_succ, List.getElem?_cons_zero]); rfl) (by kernel_rfl) (by kernel_rfl) (by kernel_rfl) (by exact fun _ _ _ h => h) ⟨Or.inl ⟨by rfl, ?_⟩, fun _ => rfl⟩ (by assumption) ?_); rotate_left; focus (intro wS hSw; (try dsimp only at hSw); go_simp; first | done | with_reducible rfl); try simp only [Act.put, List.setIfInBounds_toArray, List.set_cons_zero, List.set_cons_succ])
      ((refine wpAnyK_take (i := 2) (v := ?_) (by kernel_rfl) (by (simp only [List.getElem?_toArray, List.getElem?_cons_succ, List.getElem?_cons_zero]); rfl) (by kernel_rfl) (by kernel_rfl) (by kernel_rfl) (by exact fun _ _ _ h => h) ⟨Or.inl ⟨by rfl, ?_⟩, fun _ => rfl⟩ (by assumption) ?_); rotate_left; focus (intro wS hSw; (try dsimp only at hSw); go_simp; first | done | with_reducible rfl); try simp only [Act.put, List.setIfInBounds_toArray, List.set_cons_zero, List.set_cons_succ])
      ((refine wpAnyK_take (i := 3) (v := ?_) (by kernel_rfl) (by (simp only [List.getElem?_toArray, List.getElem?_cons_succ, List.getElem?_cons_zero]); rfl) (by kernel_rfl) (by kernel_rfl) (by kernel_rfl) (by exact fun _ _ _ h => h) ⟨Or.inl ⟨by rfl, ?_⟩, fun _ => rfl⟩ (by assumption) ?_); rotate_left; focus (intro wS hSw; (try dsimp only at hSw); go_simp; first | done | with_reducible rfl); try simp only [Act.put, List.setIfInBounds_toArray, List.set_cons_zero, List.set_cons_succ])
      ((refine wpAnyK_take (i := 4) (v := ?_) (by kernel_rfl) (by (simp only [List.getElem?_toArray, List.getElem?_cons_succ, List.getElem?_cons_zero]); rfl) (by kernel_rfl) (by kernel_rfl) (by kernel_rfl) (by exact fun _ _ _ h => h) ⟨Or.inl ⟨by rfl, ?_⟩, fun _ => rfl⟩ (by assumption) ?_); rotate_left; focus (intro wS hSw; (try dsimp only at hSw); go_simp; first | done | with_reducible rfl); try simp only [Act.put, List.setIfInBounds_toArray, List.set_cons_zero, List.set_cons_succ])
      ((refine wpAnyK_take (i := 5) (v := ?_) (by kernel_rfl) (by (simp only [List.getElem?_toArray, List.getElem?_cons_succ, List.getElem?_cons_zero]); rfl) (by kernel_rfl) (by kernel_rfl) (by kernel_rfl) (by exact fun _ _ _ h => h) ⟨Or.inl ⟨by rfl, ?_⟩, fun _ => rfl⟩ (by assumption) ?_); rotate_left; focus (intro wS hSw; (try dsimp only at hSw); go_simp; first | done | with_reducible rfl); try simp only [Act.put, List.setIfInBounds_toArray, List.set_cons_zero, List.set_cons_succ])
      ((refine wpAnyK_take (i := 6) (v := ?_) (by kernel_rfl) (by (simp only [List.getElem?_toArray, List.getElem?_cons_succ, List.getElem?_cons_zero]); rfl) (by kernel_rfl) (by kernel_rfl) (by kernel_rfl) (by exact fun _ _ _ h => h) ⟨Or.inl ⟨by rfl, ?_⟩, fun _ => rfl⟩ (by assumption) ?_); rotate_left; focus (intro wS hSw; (try dsimp only at hSw); go_simp; first | done | with_reducible rfl); try simp only [Act.put, List.setIfInBounds_toArray, List.set_cons_zero, List.set_cons_succ])
      ((refine wpAnyK_take (i := 7) (v := ?_) (by kernel_rfl) (by (simp only [List.getElem?_toArray, List.getElem?_cons_succ, List.getElem?_cons_zero]); rfl) (by kernel_rfl) (by kernel_rfl) (by kernel_rfl) (by exact fun _ _ _ h => h) ⟨Or.inl ⟨by rfl, ?_⟩, fun _ => rfl⟩ (by assumption) ?_); rotate_left; focus (intro wS hSw; (try dsimp only at hSw); go_simp; first | done | with_reducible rfl); try simp only [Act.put, List.setIfInBounds_toArray, List.set_cons_zero, List.set_cons_succ])
      ((refine wpAnyK_take (i := 8) (v := ?_) (by kernel_rfl) (by (simp only [List.getElem?_toArray, List.getElem?_cons_succ, List.getElem?_cons_zero]); rfl) (by kernel_rfl) (by kernel_rfl) (by kernel_rfl) (by exact fun _ _ _ h => h) ⟨Or.inl ⟨by rfl, ?_⟩, fun _ => rfl⟩ (by assumption) ?_); rotate_left; focus (intro wS hSw; (try dsimp only at hSw); go_simp; first | done | with_reducible rfl); try simp only [Act.put, List.setIfInBounds_toArray, List.set_cons_zero, List.set_cons_succ])
      ((refine wpAnyK_take (i := 9) (v := ?_) (by kernel_rfl) (by (simp only [List.getElem?_toArray, List.getElem?_cons_succ, List.getElem?_cons_zero]); rfl) (by kernel_rfl) (by kernel_rfl) (by kernel_rfl) (by exact fun _ _ _ h => h) ⟨Or.inl ⟨by rfl, ?_⟩, fun _ => rfl⟩ (by assumption) ?_); rotate_left; focus (intro wS hSw; (try dsimp only at hSw); go_simp; first | done | with_reducible rfl); try simp only [Act.put, List.setIfInBounds_toArray, List.set_cons_zero, List.set_cons_succ])
      ((refine wpAnyK_take (i := 10) (v := ?_) (by kernel_rfl) (by (simp only [List.getElem?_toArray, List.getElem?_cons_succ, List.getElem?_cons_zero]); rfl) (by kernel_rfl) (by kernel_rfl) (by kernel_rfl) (by exact fun _ _ _ h => h) ⟨Or.inl ⟨by rfl, ?_⟩, fun _ => rfl⟩ (by assumption) ?_); rotate_left; focus (intro wS hSw; (try dsimp only at hSw); go_simp; first | done | with_reducible rfl); try simp only [Act.put, List.setIfInBounds_toArray, List.set_cons_zero, List.set_cons_succ])
      ((refine wpAnyK_take (i := 11) (v := ?_) (by kernel_rfl) (by (simp only [List.getElem?_toArray, List.getElem?_cons_succ, List.getElem?_cons_zero]); rfl) (by kernel_rfl) (by kernel_rfl) (by kernel_rfl) (by exact fun _ _ _ h => h) ⟨Or.inl ⟨by rfl, ?_⟩, fun _ => rfl⟩ (by assumption) ?_); rotate_left; focus (intro wS hSw; (try dsimp only at hSw); go_simp; first | done | with_reducible rfl); try simp only [Act.put, List.setIfInBounds_toArray, List.set_cons_zero, List.set_cons_succ])
      ((refine wpAnyK_take (i := 12) (v := ?_) (by kernel_rfl) (by (simp only [List.getElem?_toArray, List.getElem?_cons_succ, List.getElem?_cons_zero]); rfl) (by kernel_rfl) (by kernel_rfl) (by kernel_rfl) (by exact fun _ _ _ h => h) ⟨Or.inl ⟨by rfl, ?_⟩, fun _ => rfl⟩ (by assumption) ?_); rotate_left; focus (intro wS hSw; (try dsimp only at hSw); go_simp; first | done | with_reducible rfl); try simp only [Act.put, List.setIfInBounds_toArray, List.set_cons_zero, List.set_cons_succ])
      ((refine wpAnyK_take (i := 13) (v := ?_) (by kernel_rfl) (by (simp only [List.getElem?_toArray, List.getElem?_cons_succ, List.getElem?_cons_zero]); rfl) (by kernel_rfl) (by kernel_rfl) (by kernel_rfl) (by exact fun _ _ _ h => h) ⟨Or.inl ⟨by rfl, ?_⟩, fun _ => rfl⟩ (by assumption) ?_); rotate_left; focus (intro wS hSw; (try dsimp only at hSw); go_simp; first | done | with_reducible rfl); try simp only [Act.put, List.setIfInBounds_toArray, List.set_cons_zero, List.set_cons_succ])
      ((refine wpAnyK_take (i := 14) (v := ?_) (by kernel_rfl) (by (simp only [List.getElem?_toArray, List.getElem?_cons_succ, List.getElem?_cons_zero]); rfl) (by kernel_rfl) (by kernel_rfl) (by kernel_rfl) (by exact fun _ _ _ h => h) ⟨Or.inl ⟨by rfl, ?_⟩, fun _ => rfl⟩ (by assumption) ?_); rotate_left; focus (intro wS hSw; (try dsimp only at hSw); go_simp; first | done | with_reducible rfl); try simp only [Act.put, List.setIfInBounds_toArray, List.set_cons_zero, List.set_cons_succ])
      ((refine wpAnyK_take (i := 15) (v := ?_) (by kernel_rfl) (by (simp only [List.getElem?_toArray, List.getElem?_cons_succ, List.getElem?_cons_zero]); rfl) (by kernel_rfl) (by kernel_rfl) (by kernel_rfl) (by exact fun _ _ _ h => h) ⟨Or.inl ⟨by rfl, ?_⟩, fun _ => rfl⟩ (by assumption) ?_); rotate_left; focus (intro wS hSw; (try dsimp only at hSw); go_simp; first | done | with_reducible rfl); try simp only [Act.put, List.setIfInBounds_toArray, List.set_cons_zero, List.set_cons_succ])
      ((refine wpAnyK_take (i := 16) (v := ?_) (by kernel_rfl) (by (simp only [List.getElem?_toArray, List.getElem?_cons_succ, List.getElem?_cons_zero]); rfl) (by kernel_rfl) (by kernel_rfl) (by kernel_rfl) (by exact fun _ _ _ h => h) ⟨Or.inl ⟨by rfl, ?_⟩, fun _ => rfl⟩ (by assumption) ?_); rotate_left; focus (intro wS hSw; (try dsimp only at hSw); go_simp; first | done | with_reducible rfl); try simp only [Act.put, List.setIfInBounds_toArray, List.set_cons_zero, List.set_cons_succ])
      ((refine wpAnyK_take (i := 17) (v := ?_) (by kernel_rfl) (by (simp only [List.getElem?_toArray, List.getElem?_cons_succ, List.getElem?_cons_zero]); rfl) (by kernel_rfl) (by kernel_rfl) (by kernel_rfl) (by exact fun _ _ _ h => h) ⟨Or.inl ⟨by rfl, ?_⟩, fun _ => rfl⟩ (by assumption) ?_); rotate_left; focus (intro wS hSw; (try dsimp only at hSw); go_simp; first | done | with_reducible rfl); try simp only [Act.put, List.setIfInBounds_toArray, List.set_cons_zero, List.set_cons_succ])
      ((refine wpAnyK_take (i := 18) (v := ?_) (by kernel_rfl) (by (simp only [List.getElem?_toArray, List.getElem?_cons_succ, List.getElem?_cons_zero]); rfl) (by kernel_rfl) (by kernel_rfl) (by kernel_rfl) (by exact fun _ _ _ h => h) ⟨Or.inl ⟨by rfl, ?_⟩, fun _ => rfl⟩ (by assumption) ?_); rotate_left; focus (intro wS hSw; (try dsimp only at hSw); go_simp; first | done | with_reducible rfl); try simp only [Act.put, List.setIfInBounds_toArray, List.set_cons_zero, List.set_cons_succ])
      ((refine wpAnyK_one (i := 19) (by kernel_rfl) (by (simp only [List.getElem?_toArray, List.getElem?_cons_succ, List.getElem?_cons_zero]); rfl) (by (first | rfl | (go_simp; try rfl))) (fun K hK => ?_)); go_simp; skip)
      refine hR.mono ?_
      rintro e W3 hE3
      obtain ⟨yb, rfl, hy1, hy2⟩ := yn hE3
      have HY1 := Lib.hid hy1
      have HY2 := Lib.hid hy2
      clear hE3 hy1 hy2
      have HKP : Hid (Kp wr.drew W3) := Lib.hid (by cases yb; exact (HY2.out rfl).2; exact (HY1.out rfl).2)
      have hqd : QIn wr.drew D R o room f n by_ dr E := HQR.out.below ((Below.refl _ _).drew : Below wr.heap.size wr wr.drew)
      have HQ3 := Lib.hid (HK2.out _ _ HKP.out hqd)
      have HB3 : Hid (Blk W3 Bs #[.pointer (some ⟨D, 0, none⟩)] 154) := Lib.hid ((HK1.out _ _ HKP.out).trans HBR.out)
      have hS3 : W3.cell? ⟨Bs, 0, none⟩ = some (.pointer (some ⟨D, 0, none⟩)) ∧ W3.cell? ⟨D, 0, none⟩ = some (.slice (some ⟨R, o, none⟩) room room) ∧ W3.cell? ⟨D, 1, none⟩ = some (.int .i64 (f : Nat)) ∧ W3.cell? ⟨R, o + q * 4, none⟩ = some (.int .i64 x.num) ∧ W3.cell? ⟨R, o + q * 4 + 1, none⟩ = some (.int .i64 x.t) ∧ W3.cell? ⟨R, o + q * 4 + 2, none⟩ = some (.int .i64 x.c) ∧ W3.cell? ⟨R, o + q * 4 + 3, none⟩ = some (.slice x.a x.n x.ca) ∧ Bs < W3.heap.size ∧ D < W3.heap.size ∧ R < W3.heap.size := by
        obtain ⟨cur, g1, g2, g3⟩ := HQ3.out.ring
        have hcell : ∀ i, i < 4 → W3.cell? ⟨R, o + (f + k) % room * 4 + i, none⟩ = (E k).cells[i]? := fun i hi => (cell_at g1 _).trans (g3 k hlt i hi)
        rw [← HX.out.1, ← HX.out.2] at hcell
        exact ⟨cell_at HB3.out 0, cell_at HQ3.out.own 0, cell_at HQ3.out.own 1, hcell 0 (by omega), hcell 1 (by omega), hcell 2 (by omega), hcell 3 (by omega), HB3.out.lt, HQ3.out.own.lt, g1.lt⟩
      have HS3 := Lib.hid hS3
      clear hqd hS3
      gi_wp2_with fail
      refine hK _ _ HS3.out ?_
      clear hK K
      try simp only [Act.put, List.setIfInBounds_toArray, List.set_cons_zero, List.set_cons_succ]
      have hHeld := HS3.out
      ((refine wpAnyK_take (i := 20) (v := ?_) (by kernel_rfl) (by (simp only [List.getElem?_toArray, List.getElem?_cons_succ, List.getElem?_cons_zero]); rfl) (by kernel_rfl) (by kernel_rfl) (by kernel_rfl) (by exact fun _ _ _ h => h) ⟨Or.inl ⟨by rfl, ?_⟩, fun _ => rfl⟩ (by assumption) ?_); rotate_left; focus (intro wS hSw; (try dsimp only at hSw); go_simp; first | done | with_reducible rfl); try simp only [Act.put, List.setIfInBounds_toArray, List.set_cons_zero, List.set_cons_succ])
      refine wpAnyK_done (by kernel_rfl) ?_ _
      cases yb
      · have H9 := Lib.hid (HY2.out rfl).1
        gi_wp2_with fail
        exact bodyPost_ret (results_none rfl _ _ _) rfl ⟨⟨_, rfl⟩, .inr ⟨_, H9.out⟩⟩
      · have H9 := Lib.hid (HY1.out rfl).1
        gi_wp2_with fail
        go_roundw
        case rel => exact ⟨k + 1, by omega, by go_num, H9.out, HQ3.out, HB3.out⟩
        case measure => simp [intOf]; omega
    · obtain rfl : k = n := by omega
      clear HY
      gi_wp2
      go_end0
      exact ⟨⟨_, rfl⟩, .inl ⟨_, rfl, hJ⟩⟩

theorem ringAll_any (D : Nat) (w : World) : Calls Try.prog 106 #[.pointer (some ⟨D, 0, none⟩)] w fun e w' => e = .returned (.func (.func 116) #[] #[.pointer (some ⟨w.heap.size, 0, none⟩)]) ∧ w.alloc (.cells #[.pointer (some ⟨D, 0, none⟩)] 154) = w' := by
  have hmf : ∀ (fn : Fn) (first cap : Array Value) (w : World), (Instr.makeFunc fn first cap).run Try.prog w = .ok (.func fn first cap) w := fun _ _ _ _ => rfl
  go_enter Try.func106, Try.ntmps106
  go_wp2
  go_ret
  exact ⟨rfl, rfl⟩

theorem ring1_seq (nn : Nat) (hnn : 1 ≤ nn) {w : World} (Bs D R o room f n : Nat) (by_ dr : Int) (E : Nat → PkE) (hBs : Blk w Bs #[.pointer (some ⟨D, 0, none⟩)] 154) (hq : QIn w D R o room f n by_ dr E)
    {Kp : World → World → Prop} (hK1 : ∀ A B, Kp A B → B.heap[Bs]? = A.heap[Bs]?) (hK2 : ∀ A B, Kp A B → QIn A D R o room f n by_ dr E → QIn B D R o room f n by_ dr E) :
    SeqF nn Try.prog 116 #[.pointer (some ⟨Bs, 0, none⟩)] encPk (fun pre x _ => x = E pre.length) Kp (fun ys => ys = fstE E n) n w := by
  intro li J Jx W _ hW hJ hY h0
  exact ring1_in nn hnn li Bs D R o room f n by_ dr E J Jx W (hBs.step hW) (hq.below hW) h0 (fun pre W h => hJ pre W _ h ((Below.refl _ _).drew : Below W.heap.size W W.drew)) Kp (fun A B h _ => hK1 A B h) hK2 hY
end Go.Proofs.Ytninhjeiialbjaa
