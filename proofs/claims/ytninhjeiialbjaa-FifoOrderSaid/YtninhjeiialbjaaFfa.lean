/-
  The law FifoOrder, walked.
-/
import Derived.Test.YtninhjeiialbjaaFf9
import Derived.Deep.DeepCutAuto
namespace Go.Proofs.Ytninhjeiialbjaa
open Go.RowKit
set_option linter.unusedSimpArgs false
set_option linter.unusedVariables false

/-- Numbers that came in. -/
structure IntsIn (W : World) (a : Option Addr) (len cap : Nat) (b o : Nat) (T : Nat → Int) : Prop where
  le : len ≤ cap
  max : cap ≤ maxLen
  at_ : 0 < len → a = some ⟨b, o, none⟩ ∧ b < W.heap.size
  cell : ∀ k, k < len → W.cell? ⟨b, o + k, none⟩ = some (.int .i64 (T k))
  bd : ∀ k, k < len → -9223372036854775808 ≤ T k ∧ T k ≤ 9223372036854775807
theorem ints_cells (W : World) {a : Option Addr} {len cap : Nat} {xs : List Dt} (h : SliceFits Try.prog W 3 a len cap xs) : ∃ (b o : Nat) (T : Nat → Int), IntsIn W a len cap b o T := by
  have hc : Try.prog.cellsOf 3 = 1 := by kernel_rfl
  obtain ⟨b, o, h1, h2⟩ := h.spot (by rw [hc]; omega)
  have hex : ∀ k, ∃ q : Int, k < len → W.cell? ⟨b, o + k, none⟩ = some (.int .i64 q) ∧ -9223372036854775808 ≤ q ∧ q ≤ 9223372036854775807 := fun k => by
    by_cases hk : k < len
    · have hl := h.length
      have hx := List.getElem?_eq_getElem (l := xs) (i := k) (by omega)
      obtain ⟨n0, e0, g0⟩ := (h.each k _ hx).1.int_inv Try.underlying3
      have hcell := h2 k _ hx
      rw [e0, hc] at hcell
      exact ⟨n0, fun _ => ⟨by have := hcell 0 _ rfl; rwa [Nat.mul_one] at this, g0.1, g0.2⟩⟩
    · exact ⟨0, fun h => absurd h hk⟩
  have hg := fun k => Classical.choose_spec (hex k)
  exact ⟨b, o, fun k => Classical.choose (hex k), h.le, h.max, h1, fun k hk => (hg k hk).1, fun k hk => (hg k hk).2⟩
theorem IntsIn.below {W W' : World} {a : Option Addr} {len cap b o : Nat} {T : Nat → Int} (h : IntsIn W a len cap b o T) (hB : Below W.heap.size W W') : IntsIn W' a len cap b o T :=
  ⟨h.le, h.max, fun hk => ⟨(h.at_ hk).1, by have := (h.at_ hk).2; have := hB.size; omega⟩, fun k hk => (hB.cell (p := ⟨b, _, none⟩) (h.at_ (by omega)).2).trans (h.cell k hk), h.bd⟩

theorem infoInt' : (Try.prog.info? 3).map (fun i => (i.zero, i.size, i.bytes)) = some (some (.int .i64 0), 1, 8) := by kernel_rfl
theorem one_at' (W : World) (x : Value) (e : TypeId) (j : Nat) (u : Value) (h : [x][j]? = some u) : (W.alloc (.cells #[x] e)).cell? ((⟨W.heap.size, 0, none⟩ : Addr).add j) = some u := by
  have hj : j = 0 := by have := (List.getElem?_eq_some_iff.1 h).1; simpa using this
  subst hj
  have hu : x = u := by simpa using h
  subst hu
  have h1 : (W.alloc (.cells #[x] e)).heap[W.heap.size]? = some (.cells #[x] e (0, 0)) := heap_alloc_new W _
  exact cell_at h1 0

/-- what is held: the packets of the numbers taken, from out on -/
def HeldI (E : Nat → PkE) (l : List Nat) (inn out : Nat) : Prop := ∀ j, j < inn - out → (E j).n = 0 ∧ (E j).c = ((out + j : Nat) : Int) ∧ ∃ x, l[out + j]? = some x ∧ (E j).num = (x : Nat)

/-- how it stands behind k rounds -/
def OrdI (w wr : World) (D R room k inn out : Nat) (vt : Value) : Prop :=
  ∃ (f : Nat) (dr : Int) (E : Nat → PkE) (l : List Nat) (ob : Option Nat), out ≤ inn ∧ inn ≤ k ∧ 0 ≤ dr ∧ dr ≤ k ∧ QIn wr D R 0 room f (inn - out) (8 * ((inn - out : Nat) : Int)) dr E ∧ l.length = inn ∧ Row wr vt ob 3 1 inn (l.map fun x => .int .i64 ((x : Nat) : Int)) ∧ (∀ g, ob = some g → D < g) ∧ HeldI E l inn out ∧ Below w.heap.size w wr

theorem HeldI.push {E : Nat → PkE} {l : List Nat} {inn out : Nat} (h : HeldI E l inn out) (hl : l.length = inn) (ho : out ≤ inn) (k : Nat) (a : Option Addr) (c b : Nat) (X : Nat → Nat) : HeldI (putE E (inn - out) ⟨(k : Nat), 0, (inn : Nat), a, 0, c, b, 0, X⟩) (l ++ [k]) (inn + 1) out := by
  intro j hj
  unfold putE
  by_cases e : j = inn - out
  · rw [if_pos e]
    refine ⟨rfl, by simp only; omega, k, ?_, rfl⟩
    rw [List.getElem?_append_right (by omega), show out + j - l.length = 0 by omega]
    rfl
  · rw [if_neg e]
    obtain ⟨h1, h2, x, h3, h4⟩ := h j (by omega)
    exact ⟨h1, h2, x, by rw [List.getElem?_append_left (by omega)]; exact h3, h4⟩
theorem HeldI.pop {E : Nat → PkE} {l : List Nat} {inn out : Nat} (h : HeldI E l inn out) : HeldI (fun j => E (j + 1)) l inn (out + 1) := by
  intro j hj
  obtain ⟨h1, h2, x, h3, h4⟩ := h (j + 1) (by omega)
  exact ⟨h1, by rw [h2]; omega, x, by rw [show out + 1 + j = out + (j + 1) by omega]; exact h3, h4⟩

theorem QIn.keep0 {W W' : World} {D R o room f n : Nat} {by_ dr : Int} {E : Nat → PkE} (h : QIn W D R o room f n by_ dr E) (hD : W'.heap[D]? = W.heap[D]?) (hR : W'.heap[R]? = W.heap[R]?) (h0 : ∀ j, j < n → (E j).n = 0) : QIn W' D R o room f n by_ dr E := by
  obtain ⟨cur, h1, h2, h3⟩ := h.ring
  exact ⟨hD.trans h.own, ⟨cur, hR.trans h1, h2, h3⟩, h.ne, h.r1, h.r64, h.fl, h.nl, fun j hj => ⟨⟨(h.ld j hj).by_.le, (h.ld j hj).by_.max, fun hk => absurd hk (by rw [h0 j hj]; omega), fun k hk => absurd hk (by rw [h0 j hj]; omega), (h.ld j hj).by_.bd⟩, (h.ld j hj).le, (h.ld j hj).d, (h.ld j hj).r⟩⟩

set_option maxRecDepth 100000 in
set_option maxHeartbeats 4000000 in
theorem fifoOrder_out (room : Int) (a : Option Addr) (n c : Nat) (m1 : n ≤ c) (m2 : c ≤ maxLen) (w : World) (h : 300 < n) :
    Calls Try.prog 10 #[.int .i64 room, .slice a n c] w fun e w' => e = .returned (.bool true) ∧ Below w.heap.size w w' := by
  unfold maxLen at m2
  obtain ⟨m, hm⟩ : ∃ m, Int.tmod room 64 = m := ⟨_, rfl⟩
  have hmb : -63 ≤ m ∧ m ≤ 63 := by rw [← hm]; have h1 := Int.tmod_lt_of_pos room (by decide : (0 : Int) < 64); have h2 := Int.lt_tmod_of_pos room (by decide : (0 : Int) < 64); omega
  obtain ⟨d, hd⟩ : ∃ d, (m + 64) % 64 = d := ⟨_, rfl⟩
  have hdb : 0 ≤ d ∧ d < 64 := by omega
  go_enter Try.func10, Try.ntmps10
  go_wp2_with (go_at_call 34; refine (fwakes_any _).mono ?_; rintro e WK ⟨rfl, hWK⟩)
  go_ret
  exact ⟨rfl, hWK⟩

set_option maxRecDepth 100000 in
set_option maxHeartbeats 8000000 in
theorem fifoOrder_in (room : Int) (a : Option Addr) (n c b o : Nat) (T : Nat → Int) (w : World) (hn : n ≤ 300) (hs : IntsIn w a n c b o T) :
    Calls Try.prog 10 #[.int .i64 room, .slice a n c] w fun e w' => e = .returned (.bool true) ∧ Below w.heap.size w w' := by
  have m1 := hs.le
  have m2 := hs.max
  unfold maxLen at m2
  have HS := Lib.hid hs
  clear hs
  obtain ⟨i0, hi, hz0, hz1, hz2⟩ := info_parts infoInt'
  have HI := Lib.hid hi
  have HZ0 := Lib.hid hz0
  have HZ1 := Lib.hid hz1
  have HZ2 := Lib.hid hz2
  clear hi hz0 hz1 hz2
  obtain ⟨m, hm⟩ : ∃ m, Int.tmod room 64 = m := ⟨_, rfl⟩
  have hmb : -63 ≤ m ∧ m ≤ 63 := by rw [← hm]; have h1 := Int.tmod_lt_of_pos room (by decide : (0 : Int) < 64); have h2 := Int.lt_tmod_of_pos room (by decide : (0 : Int) < 64); omega
  obtain ⟨d, hd⟩ : ∃ d, (m + 64) % 64 = d := ⟨_, rfl⟩
  have hdb : 0 ≤ d ∧ d < 64 := by omega
  obtain ⟨rm, hrm⟩ : ∃ rm : Nat, (1 + d : Int) = (rm : Int) := ⟨(1 + d).toNat, by omega⟩
  have hr1 : 1 ≤ rm := by omega
  have hr64 : rm ≤ 64 := by omega
  obtain ⟨D, hD⟩ : ∃ D, D = w.heap.size + 1 := ⟨_, rfl⟩
  obtain ⟨R, hR⟩ : ∃ R, R = w.heap.size := ⟨_, rfl⟩
  have HD := Lib.hid hD
  have HR := Lib.hid hR
  have HNW := Lib.hid (fnew_any rm (fun _ => nilP) w hr1 hr64)
  rw [← hD] at HNW
  have hp : ∀ W, (binOp .eql 60 (.pointer (some ⟨D, 0, none⟩)) (.pointer none)).run Try.prog W = .ok (.bool false) W := fun _ => rfl
  clear hD hR
  go_enter Try.func10, Try.ntmps10
  go_wp2_with fail
  go_at_call 35
  refine Calls.mono HNW.out ?_
  rintro e W1 ⟨rfl, hq1, hB1⟩
  have HQ1 := Lib.hid hq1
  have HB1 := Lib.hid hB1
  clear hq1 hB1 HNW
  go_wp2_with fail
  go_loopw [7, 8, 9, 10] (fun vi vo vt vk wr => ∃ k inn out : Nat, k ≤ n ∧ vk = .int .i64 k ∧ vi = .int .i64 inn ∧ vo = .int .i64 out ∧ OrdI w wr D R rm k inn out vt) (fun _ _ _ vk _ => n - (intOf vk).toNat)
  case atStart => exact ⟨0, 0, 0, Nat.zero_le _, rfl, rfl, rfl, 0, 0, _, [], none, Nat.le_refl _, Nat.le_refl _, by omega, by omega, by rw [HR.out]; exact HQ1.out, rfl, Row.nil _ _ _, (fun _ h => by cases h), (fun j hj => by omega), HB1.out⟩
  case round =>
    obtain ⟨k, inn, out, hk, rfl, rfl, rfl, f, dr, E, l, ob, ho, hik, hd0, hdk, hq, hlen, hrow, hg, hE, hB⟩ := hrel
    obtain ⟨q, rfl⟩ : ∃ q, inn = out + q := ⟨inn - out, by omega⟩
    have HE := Lib.hid hE
    rw [Nat.add_sub_cancel_left] at hq
    have HQ := Lib.hid hq
    have HROW := Lib.hid hrow
    have HG := Lib.hid hg
    have HB := Lib.hid hB
    have HLEN := Lib.hid hlen
    have hnr := hq.nl
    have hDs : D < wr.heap.size := hq.own.lt
    have hRs : R < wr.heap.size := by obtain ⟨_, h1, _⟩ := hq.ring; exact h1.lt
    clear hq hrow hg hE hB hlen
    obtain ⟨I, hI⟩ : ∃ I : Int, I = ((out + q : Nat) : Int) := ⟨_, rfl⟩
    obtain ⟨O, hO⟩ : ∃ O : Int, O = (out : Int) := ⟨_, rfl⟩
    rw [← hI, ← hO]
    have x1 : 0 ≤ O := by omega
    have x2 : I ≤ 300 := by omega
    have x3 : O ≤ I := by omega
    have x4 : I - O = q := by omega
    have x5 : out + q ≤ 300 := by omega
    have HI_ := Lib.hid hI
    have HO := Lib.hid hO
    have HIK := Lib.hid hik
    clear hI hO hik ho
    by_cases hlt : k < n
    · obtain ⟨e0, e1⟩ := (HS.out.below HB.out).at_ (by omega)
      subst e0
      have t0 := (HS.out.below HB.out).cell k hlt
      obtain ⟨tk, htk⟩ : ∃ tk, tk = T k := ⟨_, rfl⟩
      rw [← htk] at t0
      clear htk
      by_cases hneg : tk < 0
      · by_cases hq0 : q = 0
        · subst hq0
          go_wp2_with fail
          go_at_call 43
          refine Calls.mono (zpop_any D R 0 rm f _ dr E _ HQ.out) ?_
          rintro e W2 ⟨rfl, hB2⟩
          have HB2 := Lib.hid hB2
          clear hB2
          go_wp2_with fail
          obtain ⟨W3, hW3⟩ : ∃ W3, W3 = W2.alloc (.cells #[.int .i64 0, .int .i64 0, .int .i64 0, .slice none 0 0] 57) := ⟨_, rfl⟩
          have HB3 : Hid (Below wr.heap.size wr W3) := Lib.hid (by rw [hW3]; exact HB2.out.alloc HB2.out.size _)
          rw [← hW3]
          clear hW3 HB2
          obtain rfl : I = O := by omega
          have d1 : decide (I < I) = false := by simp
          (refine wp_region_quiet_lit (by kernel_rfl) (by kernel_rfl) ?_; (repeat (first | go_big_quiet_step (fail) | (refine BigFrame.wpQuiet_skip (by rfl) ?_; try simp only [Act.put, List.setIfInBounds_toArray, List.set_cons_zero, List.set_cons_succ]))); refine wpQuiet_nil ?_; intro _ hw9; obtain ⟨nq, hw8⟩ := hw9; subst hw8)
          go_wp2_with fail
          go_roundw
          case rel =>
            have hBd := below_drewN HB3.out nq
            refine ⟨k + 1, out + 0, out, by omega, by go_num, by rw [HI_.out], by rw [HI_.out]; rfl, f, dr, E, l, ob, by omega, by have := HIK.out; omega, by omega, by omega, ?_, HLEN.out, HROW.out.congr (fun g hg => hBd.block g (by subst hg; exact HROW.out.lt)), HG.out, HE.out, HB.out.trans (hBd.mono HB.out.size)⟩
            rw [Nat.add_sub_cancel_left]
            exact HQ.out.below hBd
          case measure => first | (simp [intOf]; done) | (simp [intOf]; omega)
        · obtain rfl : O = (out : Int) := HO.out
          obtain ⟨p0n, p0c, x, hx, p0u⟩ := HE.out 0 (by omega)
          rw [Nat.add_zero] at p0c hx
          go_wp2_with fail
          go_at_call 43
          refine Calls.mono (fpop_any D R 0 rm f q _ dr E _ HQ.out (by omega) (by omega)) ?_
          rintro e W2 ⟨a5, c5, b5, rfl, hby5, hfr5, hq5, hF5⟩
          obtain ⟨t5, ht5⟩ : ∃ t5, t5 = (E 0).t := ⟨_, rfl⟩
          rw [← ht5, p0n, p0c, p0u]
          rw [p0n] at hq5
          have HQ5 := Lib.hid hq5
          have HF5 := Lib.hid hF5
          clear hby5 hfr5 hq5 hF5 ht5 p0n p0c p0u
          go_wp2_with fail
          have HROW2 := Lib.hid (HROW.out.congr (w' := W2) fun g hg => HF5.out.block g (by subst hg; exact HROW.out.lt) (by have := HG.out g hg; have := HD.out; have := HR.out; simp; omega))
          obtain ⟨W3, hW3⟩ : ∃ W3, W3 = W2.alloc (.cells #[.int .i64 (x : Int), .int .i64 t5, .int .i64 (out : Int), .slice a5 0 c5] 57) := ⟨_, rfl⟩
          have hnew : W3.heap[W2.heap.size]? = some (.cells #[.int .i64 (x : Int), .int .i64 t5, .int .i64 (out : Int), .slice a5 0 c5] 57 (0, 0)) := by rw [hW3]; exact heap_alloc_new _ _
          have h0 : W3.cell? ⟨W2.heap.size, 0, none⟩ = some (.int .i64 (x : Int)) := cell_at hnew 0
          have h2 : W3.cell? ⟨W2.heap.size, 2, none⟩ = some (.int .i64 (out : Int)) := cell_at hnew 2
          have HROW3 : Hid (Row W3 _ ob 3 1 (out + q) (l.map fun x => .int .i64 ((x : Nat) : Int))) := Lib.hid (by rw [hW3]; exact HROW2.out.alloc _)
          obtain ⟨g, hg, hcell, _⟩ := HROW3.out.cell out (by omega)
          rw [List.getElem?_map, hx] at hcell
          have hcell' : W3.cell? ⟨g, out, none⟩ = some (.int .i64 (x : Int)) := hcell
          obtain ⟨ad, cp, rfl, u1, u2, hd1⟩ := HROW3.out.shape
          rw [hg] at hd1
          obtain rfl : ad = some ⟨g, 0, none⟩ := hd1
          unfold maxLen at u2
          have hB3 : Below W2.heap.size W2 W3 := by rw [hW3]; exact (Below.refl _ _).alloc (Nat.le_refl _) _
          have HB3 := Lib.hid hB3
          have hN3 : W2.heap.size < W3.heap.size := by rw [hW3]; simp
          rw [← hW3]
          clear hW3 hnew hcell hB3 hx
          have HGG := Lib.hid hg
          clear hg
          have d1 : decide ((out : Int) < I) = true := by simp; omega
          have i2 : (out : Int) < ((out + q : Nat) : Int) := by omega
          (refine wp_region_quiet_lit (by kernel_rfl) (by kernel_rfl) ?_; (repeat (first | go_big_quiet_step (fail) | (refine BigFrame.wpQuiet_skip (by rfl) ?_; try simp only [Act.put, List.setIfInBounds_toArray, List.set_cons_zero, List.set_cons_succ]))); refine wpQuiet_nil ?_; intro _ hw9; obtain ⟨nq, hw8⟩ := hw9; subst hw8)
          have HE2 := Lib.hid (HE.out.pop)
          go_wp2_with fail
          go_roundw
          case rel =>
            have hBd := below_drewN HB3.out nq
            have hD3 := HD.out
            have hR3 := HR.out
            have hb : ∀ x ∈ [D, R], w.heap.size ≤ x := by simp; omega
            have hB2 := HB.out.trans (HF5.out.below HB.out.size hb)
            have hi := HI_.out
            have hik := HIK.out
            have hs2 := HF5.out.size
            refine ⟨k + 1, out + q, out + 1, by omega, by go_num, by rw [hi], by go_num, (f + 1) % rm, dr, _, l, ob, by omega, by omega, by omega, by omega, ?_, HLEN.out, HROW3.out.congr (fun g hg => rfl), HG.out, HE2.out, hB2.trans (hBd.mono hB2.size)⟩
            have hq5 := HQ5.out
            rw [show (8 * (q : Int) - (8 + ((0 : Nat) : Int))) = 8 * ((q - 1 : Nat) : Int) by omega] at hq5
            rw [show out + q - (out + 1) = q - 1 by omega]
            exact hq5.below hBd
          case measure => first | (simp [intOf]; done) | (simp [intOf]; omega)
      · by_cases hfull : q < rm
        · go_wp2_with fail
          go_at_call 47
          refine Calls.mono (fpush_any D R 0 rm f q _ dr E k 0 I none 0 0 _ HQ.out hfull 0 0 (fun _ => 0) (by_nil _) (by omega) (by omega)) ?_
          rintro e W2 ⟨rfl, ⟨a2, c2, b2, hq2⟩, hF2⟩
          have HQ2 := Lib.hid hq2
          have HF2 := Lib.hid hF2
          clear hq2 hF2
          have hs2 := HF2.out.size
          have HROW2 := Lib.hid (HROW.out.congr (w' := W2) fun g hg => HF2.out.block g (by subst hg; exact HROW.out.lt) (by have := HG.out g hg; have := HD.out; have := HR.out; simp; omega))
          go_wp2_with (at_builtin; refine wpList_append_row _ rfl (.tmp 56) (.tmp 58) 52 rfl 3 i0 _ 1 8 Try.underlying52 HI.out HZ0.out HZ1.out HZ2.out rfl (by decide) _ ob (out + q) (l.map fun x => .int .i64 ((x : Nat) : Int)) rfl (HROW2.out.alloc _) ⟨W2.heap.size, 0, none⟩ 1 1 [.int .i64 (k : Int)] rfl (by decide) rfl ?c1 ?c2 ?c3 ?c4 ?_)
          case c1 => exact one_at' W2 _ _
          case c2 => intro u hu; exact (List.all_eq_true (p := fun u : Value => u.oneCell')).1 rfl u hu
          case c3 => unfold maxLen; omega
          case c4 => omega
          intro vt' ob' W3 hrow3 hg3 hob3
          go_wp2_with fail
          go_roundw
          case rel =>
            have hz := hg3.size
            have hzA : (W2.alloc (.cells #[.int .i64 (k : Int)] 3)).heap.size = W2.heap.size + 1 := by simp
            have hD3 := HD.out
            have hR3 := HR.out
            have hA3 : ∀ b, b < W2.heap.size → ob ≠ some b → W3.heap[b]? = W2.heap[b]? := fun b hb hn => (hg3.block b (by omega) (fun e => hn e.symm)).trans (Below.heap_alloc _ _ _ hb)
            have hb : ∀ x ∈ [D, R], w.heap.size ≤ x := by simp; omega
            have hB2 := HB.out.trans (HF2.out.below HB.out.size hb)
            have hE3 := HE.out.push HLEN.out (by omega) k a2 c2 b2 (fun _ => 0)
            rw [Nat.add_sub_cancel_left] at hE3
            have hsz := hB2.size
            have hi := HI_.out
            have hik := HIK.out
            have hp1 : ((out + q : Nat) : Int) = I := hi.symm
            rw [hp1] at hE3
            refine ⟨k + 1, out + q + 1, out, by omega, by go_num, by rw [hi]; go_num, by rw [HO.out], f, dr, _, l ++ [k], some ob', by omega, by omega, by omega, by omega, ?_, by rw [List.length_append, HLEN.out]; rfl, by rw [List.map_append]; exact hrow3, ?_, hE3, ?_⟩
            · have hq3 := HQ2.out
              rw [show (8 * (q : Int) + (8 + ((0 : Nat) : Int))) = 8 * ((q + 1 : Nat) : Int) by omega] at hq3
              rw [show out + q + 1 - out = q + 1 by omega]
              refine hq3.keep0 (hA3 D (by omega) (fun e => by have := HG.out _ e; omega)) (hA3 R (by omega) (fun e => by have := HG.out _ e; omega)) (fun j hj => ?_)
              exact (hE3 j (by omega)).1
            · intro g e
              obtain rfl := Option.some.inj e
              rcases hob3 with h | h
              · exact HG.out _ h
              · omega
            · exact (hB2.alloc hB2.size _).grown hg3 (by omega) (fun g e => by have := HG.out _ e; omega)
          case measure => first | (simp [intOf]; done) | (simp [intOf]; omega)
        · go_wp2_with fail
          go_at_call 47
          refine Calls.mono (fpush_full D R 0 rm f q _ dr E k 0 I none 0 0 _ HQ.out (by omega) 0 0 (fun _ => 0) (by_nil _) (by omega) (by omega)) ?_
          rintro e W2 ⟨rfl, hq2, hF2⟩
          have HQ2 := Lib.hid hq2
          have HF2 := Lib.hid hF2
          clear hq2 hF2
          go_wp2_with fail
          go_roundw
          case rel =>
            have hD3 := HD.out
            have hR3 := HR.out
            have hb : ∀ x ∈ [D, R], w.heap.size ≤ x := by simp; omega
            refine ⟨k + 1, out + q, out, by omega, by go_num, by rw [HI_.out], by rw [HO.out], f, dr + 1, E, l, ob, by omega, by have := HIK.out; omega, by omega, by omega, ?_, HLEN.out, HROW.out.congr (fun g hg => HF2.out.block g (by subst hg; exact HROW.out.lt) (by have := HG.out g hg; simp; omega)), HG.out, HE.out, HB.out.trans (HF2.out.below HB.out.size hb)⟩
            rw [Nat.add_sub_cancel_left]
            exact HQ2.out
          case measure => first | (simp [intOf]; done) | (simp [intOf]; omega)
    · obtain rfl : k = n := by omega
      clear hlt hk
      go_wp2_with fail
      go_at_call 38
      refine (flen_any _ _ _ _ _ _ _ _ _ _ HQ.out).mono ?_
      rintro e W ⟨rfl, rfl⟩
      go_wp2_with (go_at_call 34; refine (fwakes_any _).mono ?_; rintro e WK ⟨rfl, hWK⟩)
      go_ret
      exact ⟨rfl, HB.out.trans (hWK.mono HB.out.size)⟩

theorem fifoOrder_dt (room : Int) (a : Option Addr) (n c : Nat) (xs : List Dt) (w : World) (h : SliceFits Try.prog w 3 a n c xs) :
    Calls Try.prog 10 #[.int .i64 room, .slice a n c] w fun e w' => e = .returned (.bool true) ∧ Below w.heap.size w w' := by
  obtain ⟨b, o, T, hT⟩ := ints_cells w h
  by_cases k1 : 300 < n
  · exact fifoOrder_out room a n c h.le h.max w k1
  · exact fifoOrder_in room a n c b o T w (by omega) hT
end Go.Proofs.Ytninhjeiialbjaa
