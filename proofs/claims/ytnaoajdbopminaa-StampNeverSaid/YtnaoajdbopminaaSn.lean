/-
  The law StampNever, walked: stamps go no faster than true time.
-/
import Derived.Test.YtnaoajdbopminaaSt2
import Derived.Test.YtnaoajdbopminaaSt4
import Derived.Deep.DeepCutAuto
namespace Go.Proofs.Ytnaoajdbopminaa
open Go.RowKit
set_option linter.unusedSimpArgs false
set_option linter.unusedVariables false

/-- of what was told so far nothing is ahead of what is told next -/
def GoodL (l : List (Int × Int)) (x t : Int) : Prop :=
  (∀ p ∈ l, 0 ≤ p.1 ∧ p.1 ≤ x ∧ 0 ≤ p.2 ∧ p.2 ≤ t ∧ x - p.1 ≤ t - p.2) ∧ (∀ (i k : Nat) (p q : Int × Int), k < i → l[i]? = some p → l[k]? = some q → q.1 ≤ p.1 ∧ p.1 - q.1 ≤ p.2 - q.2)
theorem GoodL.nil : GoodL [] 0 0 := ⟨(fun p h => absurd h (by simp)), (fun i k p q h1 h2 => by simp at h2)⟩
theorem GoodL.snoc {l : List (Int × Int)} {x t x' t' : Int} (h : GoodL l x t) (hx : x ≤ x') (h0 : 0 ≤ x) (ht : t ≤ t') (ht0 : 0 ≤ t) (hd : x' - x ≤ t' - t) : GoodL (l ++ [(x', t')]) x' t' := by
  refine ⟨fun p hp => ?_, fun i k p q hki hi hk => ?_⟩
  · rcases List.mem_append.1 hp with h1 | h1
    · have := h.1 p h1
      omega
    · obtain rfl : p = (x', t') := by simpa using h1
      simp only
      omega
  · rw [List.getElem?_append] at hi hk
    by_cases h1 : i < l.length
    · rw [if_pos h1] at hi
      rw [if_pos (by omega)] at hk
      exact h.2 i k p q hki hi hk
    · rw [if_neg h1] at hi
      have hil : i = l.length := by
        have := (List.getElem?_eq_some_iff.1 hi).1
        simp at this
        omega
      rw [if_pos (by omega)] at hk
      have hp : p = (x', t') := by rw [hil] at hi; simpa using hi.symm
      have hq := h.1 q (List.mem_of_getElem? hk)
      rw [hp]
      simp only
      omega
theorem row_at {w : World} {v : Value} {g : Nat} {n : Nat} {l : List (Int × Int)} {f : Int × Int → Int} (h : Row w v (some g) 3 1 n (l.map fun p => .int .i64 (f p))) (j : Nat) (p : Int × Int) (hp : l[j]? = some p) : w.cell? ⟨g, j, none⟩ = some (.int .i64 (f p)) := by
  have hl := h.len
  have hj := (List.getElem?_eq_some_iff.1 hp).1
  simp only [List.length_map] at hl
  obtain ⟨g', hg', hc, _⟩ := h.cell j (by omega)
  obtain rfl := Option.some.inj hg'
  rw [hc, List.getElem?_map, hp]
  rfl

theorem div_step {now now' q d : Int} (hq : 0 < q) (h : now ≤ now') (h2 : now' ≤ now + d * q) : now / q ≤ now' / q ∧ now' / q - now / q ≤ d := by
  refine ⟨Int.ediv_le_ediv hq h, ?_⟩
  have h3 : now' / q ≤ (now + d * q) / q := Int.ediv_le_ediv hq h2
  rw [Int.add_mul_ediv_right _ _ (by omega)] at h3
  omega

/-- how it stands behind k steps -/
def SnI (rho : Int) (w wr : World) (v1 v2 vs vl : Value) (k : Nat) : Prop :=
  ∃ (l : List (Int × Int)) (now ticks : Int) (ob1 ob2 : Option Nat), l.length = k ∧ CkOk now ticks rho ∧ ticks ≤ k * 100000 ∧ vs = .int .i64 (now / (1000 + rho)) ∧ vl = .int .i64 (now / (1000 + rho)) ∧
    CkAt wr w.heap.size now ticks rho ∧ StAt wr (w.heap.size + 1) 0 rho (now / (1000 + rho)) ∧ Row wr v1 ob1 3 1 k (l.map fun p => .int .i64 p.1) ∧ Row wr v2 ob2 3 1 k (l.map fun p => .int .i64 p.2) ∧
    (∀ g, ob1 = some g → w.heap.size + 1 < g) ∧ (∀ g, ob2 = some g → w.heap.size + 1 < g) ∧ (∀ g, ob1 = some g → ob2 ≠ some g) ∧ GoodL l (now / (1000 + rho)) ticks ∧ Below w.heap.size w wr

theorem below_drewN' {B : Nat} {w X : World} (h : Below B w X) (n : Nat) : Below B w (X.drewN n) := ⟨h.os, h.tape, h.output, h.size, h.block⟩
theorem infoInt : (Try.prog.info? 3).map (fun i => (i.zero, i.size, i.bytes)) = some (some (.int .i64 0), 1, 8) := by kernel_rfl
theorem one_at (W : World) (x : Value) (e : TypeId) (j : Nat) (u : Value) (h : [x][j]? = some u) : (W.alloc (.cells #[x] e)).cell? ((⟨W.heap.size, 0, none⟩ : Addr).add j) = some u := by
  have hj : j = 0 := by have := (List.getElem?_eq_some_iff.1 h).1; simpa using this
  subst hj
  have hu : x = u := by simpa using h
  subst hu
  have h1 : (W.alloc (.cells #[x] e)).heap[W.heap.size]? = some (.cells #[x] e (0, 0)) := heap_alloc_new W _
  exact cell_at h1 0

set_option maxRecDepth 100000 in
set_option maxHeartbeats 4000000 in
theorem snever_out (rho : Int) (a1 : Option Addr) (n1 c1 : Nat) (a2 : Option Addr) (n2 c2 : Nat) (m1 : n1 ≤ c1) (m2 : c1 ≤ maxLen) (m3 : n2 ≤ c2) (m4 : c2 ≤ maxLen) (w : World) (h : 100 < n1 ∨ (n1 ≤ 100 ∧ n2 < n1) ∨ (n1 ≤ 100 ∧ n1 ≤ n2 ∧ (rho < 0 ∨ 200 < rho))) :
    Calls Try.prog 4 #[.int .i64 rho, .slice a1 n1 c1, .slice a2 n2 c2] w fun e w' => e = .returned (.bool true) ∧ Below w.heap.size w w' := by
  unfold maxLen at m2 m4
  rcases h with h | ⟨h1, h⟩ | ⟨h1, h2, h⟩
  · go_enter Try.func4, Try.ntmps4
    go_wp2_with (go_at_call 23; refine (swakes_any _).mono ?_; rintro e WK ⟨rfl, hWK⟩)
    go_ret
    exact ⟨rfl, hWK⟩
  · go_enter Try.func4, Try.ntmps4
    go_wp2_with (go_at_call 23; refine (swakes_any _).mono ?_; rintro e WK ⟨rfl, hWK⟩)
    go_ret
    exact ⟨rfl, hWK⟩
  · go_enter Try.func4, Try.ntmps4
    go_wp2_with (first
      | (go_at_call 16; refine (new_bad _ h _).mono ?_; rintro e w' ⟨rfl, rfl⟩)
      | (go_at_call 23; refine (swakes_any _).mono ?_; rintro e WK ⟨rfl, hWK⟩))
    go_ret
    exact ⟨rfl, hWK⟩

set_option maxRecDepth 100000 in
set_option maxHeartbeats 8000000 in
theorem snever_in (rho : Int) (a1 : Option Addr) (n1 c1 b1 o1 : Nat) (T : Nat → Int) (a2 : Option Addr) (n2 c2 b2 o2 : Nat) (S : Nat → Int) (w : World) (r0 : 0 ≤ rho) (r1 : rho ≤ 200) (hl : n1 ≤ 100) (hl2 : n1 ≤ n2) (h1 : IntsIn w a1 n1 c1 b1 o1 T) (h2 : IntsIn w a2 n2 c2 b2 o2 S) :
    Calls Try.prog 4 #[.int .i64 rho, .slice a1 n1 c1, .slice a2 n2 c2] w fun e w' => e = .returned (.bool true) ∧ Below w.heap.size w w' := by
  have m1 := h1.le
  have m2 := h1.max
  have m3 := h2.le
  have m4 := h2.max
  unfold maxLen at m2 m4
  have H1 := Lib.hid h1
  have H2 := Lib.hid h2
  obtain ⟨i0, hi, hz0, hz1, hz2⟩ := info_parts infoInt
  have HI := Lib.hid hi
  have HZ0 := Lib.hid hz0
  have HZ1 := Lib.hid hz1
  have HZ2 := Lib.hid hz2
  clear h1 h2 hi hz0 hz1 hz2
  go_enter Try.func4, Try.ntmps4
  go_wp2_with (first
    | (go_at_call 16; refine (new_ok _ r0 r1 _).mono ?_; rintro e w' ⟨rfl, rfl⟩)
    | (go_at_call 18; refine (now_any w.heap.size 0 0 rho _ (heap_alloc_new w _)).mono ?_; rintro e w' ⟨rfl, rfl⟩)
    | (go_at_call 24; refine (snew_ok rho 0 ⟨r0, r1, by omega, by omega⟩ _).mono ?_; rintro e w' ⟨rfl, rfl⟩))
  have hC0 : CkAt ((w.alloc (.cells #[.int .i64 0, .int .i64 0, .int .i64 rho] 96 (0, 0))).alloc (.cells #[.int .i64 0, .int .i64 rho, .int .i64 0] 100 (0, 0))) w.heap.size 0 0 rho := (Below.heap_alloc _ _ _ (by simp)).trans (heap_alloc_new w _)
  have hS0 : StAt ((w.alloc (.cells #[.int .i64 0, .int .i64 0, .int .i64 rho] 96 (0, 0))).alloc (.cells #[.int .i64 0, .int .i64 rho, .int .i64 0] 100 (0, 0))) (w.heap.size + 1) 0 rho 0 := by
    have h := heap_alloc_new (w.alloc (.cells #[.int .i64 0, .int .i64 0, .int .i64 rho] 96 (0, 0))) (.cells #[.int .i64 0, .int .i64 rho, .int .i64 0] 100 (0, 0))
    rw [World.size_alloc] at h
    exact h
  have HC0 := Lib.hid hC0
  have HS0 := Lib.hid hS0
  clear hC0 hS0
  go_loopw [11, 12, 13, 14, 15] (fun v1 v2 vs vl vi wr => ∃ k : Nat, k ≤ n1 ∧ vi = .int .i64 k ∧ SnI rho w wr v1 v2 vs vl k) (fun _ _ _ _ vi _ => n1 - (intOf vi).toNat)
  case atStart => exact ⟨0, Nat.zero_le _, rfl, [], 0, 0, none, none, rfl, CkOk.zero r0 r1, by omega, by simp, by simp, HC0.out, by simpa using HS0.out, Row.nil _ _ _, Row.nil _ _ _, (fun _ h => by cases h), (fun _ h => by cases h), (fun _ h => by cases h), by simpa using GoodL.nil, ((Below.refl _ _).alloc (Nat.le_refl _) _).alloc (by simp) _⟩
  case round =>
    obtain ⟨k, hk, rfl, l, now, ticks, ob1, ob2, hlen, ok, htk, rfl, rfl, hc, hs, hr1, hr2, g1, g2, g12, hgood, hB⟩ := hrel
    by_cases hlt : k < n1
    · obtain ⟨e0, e1⟩ := (H1.out.below hB).at_ (by omega)
      obtain ⟨e2, e3⟩ := (H2.out.below hB).at_ (by omega)
      subst e0 e2
      have t0 := (H1.out.below hB).cell k hlt
      have s0 := (H2.out.below hB).cell k (by omega)
      obtain ⟨tk, htk2⟩ : ∃ tk, tk = T k := ⟨_, rfl⟩
      obtain ⟨sk, hsk⟩ : ∃ sk, sk = S k := ⟨_, rfl⟩
      rw [← htk2] at t0
      rw [← hsk] at s0
      clear htk2 hsk
      obtain ⟨m, hm⟩ : ∃ m, Int.tmod tk 100000 = m := ⟨_, rfl⟩
      have hmb : -99999 ≤ m ∧ m ≤ 99999 := by rw [← hm]; have h1 := Int.tmod_lt_of_pos tk (by decide : (0 : Int) < 100000); have h2 := Int.lt_tmod_of_pos tk (by decide : (0 : Int) < 100000); omega
      obtain ⟨d, hd⟩ : ∃ d, (m + 100000) % 100000 = d := ⟨_, rfl⟩
      have hdb : 0 ≤ d ∧ d < 100000 := by omega
      obtain ⟨q0, q1, q2⟩ := ok.bd
      obtain ⟨x0, hx0⟩ : ∃ x0, x0 = now / (1000 + rho) := ⟨_, rfl⟩
      obtain ⟨now', hnow'⟩ : ∃ n, n = now + cwithin sk (d * (1000 - rho)) (d * (1000 + rho)) := ⟨_, rfl⟩
      obtain ⟨x1, hx1⟩ : ∃ x1, x1 = now' / (1000 + rho) := ⟨_, rfl⟩
      have hgd : goodB ticks d = true := by unfold goodB; simp; omega
      have ok' : CkOk now' (ticks + d) rho := by rw [hnow']; exact ok.step sk (by omega) (by omega)
      obtain ⟨w0, w1⟩ := wish_in sk hdb.1 r0 r1
      obtain ⟨p0, p1, p2⟩ := ok'.bd
      have hmono : now ≤ now' := by have := Int.mul_nonneg hdb.1 (by omega : 0 ≤ 1000 - rho); omega
      obtain ⟨ds1, ds2⟩ := div_step (now := now) (now' := now') (q := 1000 + rho) (d := d) (by omega) hmono (by omega)
      rw [← hx0, ← hx1] at ds1 ds2
      have hx0b : 0 ≤ x0 := by rw [hx0]; exact Int.ediv_nonneg (by omega) (by omega)
      have hx1b : x1 ≤ now' := by rw [hx1]; exact Int.ediv_le_self _ (by omega)
      rw [← hx0] at hs hgood ⊢
      have hgood' : GoodL (l ++ [(x1, ticks + d)]) x1 (ticks + d) := hgood.snoc ds1 hx0b (by omega) ok.t0 (by omega)
      have CS : Hid (∀ W, CkAt W w.heap.size now ticks rho → Calls Try.prog 20 #[.pointer (some ⟨w.heap.size, 0, none⟩), .int .i64 d, .int .i64 sk] W fun e w' => e = .returned (.int .i64 0) ∧ Fr [w.heap.size] W w' ∧ CkAt w' w.heap.size now' (ticks + d) rho) := Lib.hid (fun W h => by
        have h3 := step_any w.heap.size now ticks rho d sk W h ok
        unfold stepE stepN stepT at h3
        rw [if_pos hgd, if_pos hgd, if_pos hgd, ← hnow'] at h3
        exact h3)
      have hatS : atS 0 rho x0 now' = x1 := by
        unfold atS surelyS driftS cwithin
        rw [hx1, show now' - 0 = now' by omega, show max now' 0 = now' by omega, show min now' 1125899906842624 = now' by omega, show max rho 0 = rho by omega, show min rho 200 = rho by omega]
        omega
      have CA : Hid (∀ W, StAt W (w.heap.size + 1) 0 rho x0 → Calls Try.prog 25 #[.pointer (some ⟨w.heap.size + 1, 0, none⟩), .int .i64 now'] W fun e w' => e = .returned (.tuple #[.int .i64 x1, .int .i64 0]) ∧ Fr [w.heap.size + 1] W w' ∧ StAt w' (w.heap.size + 1) 0 rho x1) := Lib.hid (fun W h => by
        have h3 := at_good (w.heap.size + 1) 0 rho x0 now' W h (by omega) (by omega) (by omega)
        rw [hatS] at h3
        exact h3)
      obtain ⟨c, hcc⟩ : ∃ c, c = x1 - x0 := ⟨_, rfl⟩
      have CC : Hid (∀ W, Calls Try.prog 26 #[.int .i64 3, .int .i64 x0, .agg #[.int .i64 3, .int .i8 0, .int .i64 x1, .int .u8 0, .slice none 0 0]] W fun e w' => e = .returned (.int .i64 c) ∧ Below W.heap.size W w') := Lib.hid (fun W => by
        have h3 := scredit_any 3 x0 3 0 x1 0 none 0 0 W (by omega) (by omega) (by omega) (by omega)
        unfold creditE at h3
        rw [if_pos ⟨rfl, ds1⟩, show wrap64 (x1 - x0) = c by rw [hcc]; simp only [wrap64, IntKind.wrap_i64]; omega] at h3
        exact h3)
      have hc0 : 0 ≤ c := by omega
      have hc1 : c ≤ 4611686018427387904 := by omega
      have hx0c : x0 ≤ 4611686018427387904 := by omega
      have hxc : x0 + c = x1 := by omega
      have hx1c : x1 ≤ 4611686018427387904 := by omega
      have hx1d : 0 ≤ x1 := by omega
      have hticks : ticks + d ≤ ((k + 1 : Nat) : Int) * 100000 := by omega
      have HC := Lib.hid hc
      have HS := Lib.hid hs
      have HR1 := Lib.hid hr1
      have HR2 := Lib.hid hr2
      have HG1 := Lib.hid g1
      have HG2 := Lib.hid g2
      have HG12 := Lib.hid g12
      have HGD := Lib.hid hgood'
      have HB := Lib.hid hB
      have HLEN := Lib.hid hlen
      have HX1 := Lib.hid hx1
      have HOK := Lib.hid ok'
      have HTK := Lib.hid hticks
      have hz9 : w.heap.size + 1 < wr.heap.size := by have h8 := lt_of_block hs; omega
      clear hc hs hr1 hr2 g1 g2 g12 hgood hgood' hB hlen hx0 hx1 hnow' ok ok' hatS hcc hgd hticks w0 w1 p0 p1 p2 q0 q1 q2 hmono ds1 ds2 hx1b htk
      go_wp2_with fail
      go_at_call 20
      refine (CS.out _ HC.out).mono ?_
      rintro e W1 ⟨rfl, hf1, hk1⟩
      have HF1 := Lib.hid hf1
      have HK1 := Lib.hid hk1
      clear hf1 hk1
      go_wp2_with fail
      go_at_call 18
      refine (now_any w.heap.size now' (ticks + d) rho _ HK1.out).mono ?_
      rintro e w' ⟨rfl, rfl⟩
      have HSA : Hid (StAt W1 (w.heap.size + 1) 0 rho x0) := Lib.hid ((HF1.out.block _ (by omega) (by simp)).trans HS.out)
      go_wp2_with fail
      go_at_call 25
      refine (CA.out _ HSA.out).mono ?_
      rintro e W2 ⟨rfl, hf2, hk2⟩
      have hz1 := HF1.out.size
      have hz2 := hf2.size
      have HF : Hid (Fr [w.heap.size, w.heap.size + 1] wr W2) := Lib.hid ((HF1.out.mono (by simp)).trans hf2 (by simp))
      have HK2 : Hid (CkAt W2 w.heap.size now' (ticks + d) rho) := Lib.hid ((hf2.block _ (by omega) (by simp)).trans HK1.out)
      have HS2 := Lib.hid hk2
      have HR1b := Lib.hid (HR1.out.congr (w' := W2) fun g hg => HF.out.block g (by subst hg; exact HR1.out.lt) (by have := HG1.out g hg; simp; omega))
      have HR2b := Lib.hid (HR2.out.congr (w' := W2) fun g hg => HF.out.block g (by subst hg; exact HR2.out.lt) (by have := HG2.out g hg; simp; omega))
      have HB2 : Hid (Below w.heap.size w W2) := Lib.hid (HB.out.trans (HF.out.below (by have := HB.out.size; omega) (by simp)))
      clear hf2 hk2 HR1 HR2 HF1 HSA HK1 HC HS
      have hb8 : ((k : Int) + 1) * 8 ≤ 140737488355328 := by omega
      go_wp2_with (at_builtin; refine wpList_append_row _ rfl (.tmp 79) (.tmp 81) 39 rfl 3 i0 _ 1 8 Try.underlying39 HI.out HZ0.out HZ1.out HZ2.out rfl (by decide) _ ob1 k (l.map fun p => .int .i64 p.1) rfl (HR1b.out.alloc _) ⟨W2.heap.size, 0, none⟩ 1 1 [.int .i64 x1] rfl (by decide) rfl ?c1 ?c2 ?c3 ?c4 ?_)
      case c1 => exact one_at W2 _ _
      case c2 => intro u hu; exact (List.all_eq_true (p := fun u : Value => u.oneCell')).1 rfl u hu
      case c3 => unfold maxLen; omega
      case c4 => omega
      intro v1' ob1' W3 hrow3 hg3 hob3
      have hzA : (W2.alloc (.cells #[.int .i64 x1] 3)).heap.size = W2.heap.size + 1 := by simp
      have hz3 := hg3.size
      have hW2 : w.heap.size + 1 < W2.heap.size := by omega
      have hob1 : w.heap.size + 1 < ob1' := by
        rcases hob3 with h | h
        · exact HG1.out _ h
        · omega
      have hob12 : ob2 ≠ some ob1' := by
        rcases hob3 with h | h
        · exact HG12.out _ h
        · intro h9
          have h8 := (HR2b.out.congr (w' := W2) fun _ _ => rfl)
          rw [h9] at h8
          have := h8.lt
          omega
      have hA3 : ∀ b, b < W2.heap.size → ob1 ≠ some b → W3.heap[b]? = W2.heap[b]? := fun b hb hn => (hg3.block b (by omega) (fun e => hn e.symm)).trans (Below.heap_alloc _ _ _ hb)
      have HK3 : Hid (CkAt W3 w.heap.size now' (ticks + d) rho) := Lib.hid ((hA3 _ (by omega) (fun e => by have := HG1.out _ e; omega)).trans HK2.out)
      have HS3 : Hid (StAt W3 (w.heap.size + 1) 0 rho x1) := Lib.hid ((hA3 _ (by omega) (fun e => by have := HG1.out _ e; omega)).trans HS2.out)
      have HR2c := Lib.hid (HR2b.out.congr (w' := W3) fun g hg => hA3 g (by subst hg; exact HR2b.out.lt) (fun e => HG12.out _ e hg))
      have HB3 : Hid (Below w.heap.size w W3) := Lib.hid ((HB2.out.alloc HB2.out.size _).grown hg3 (by omega) (fun g e => by have := HG1.out _ e; omega))
      have HR1c := Lib.hid hrow3
      have HOB1 := Lib.hid hob1
      have HOB12 := Lib.hid hob12
      clear hg3 hob3 hrow3 hob1 hob12 hA3 HK2 HS2 HR2b HR1b HB2 HF
      go_wp2_with fail
      go_at_call 19
      refine (true_any w.heap.size now' (ticks + d) rho _ HK3.out).mono ?_
      rintro e w' ⟨rfl, rfl⟩
      go_wp2_with (at_builtin; refine wpList_append_row _ rfl (.tmp 83) (.tmp 86) 39 rfl 3 i0 _ 1 8 Try.underlying39 HI.out HZ0.out HZ1.out HZ2.out rfl (by decide) _ ob2 k (l.map fun p => .int .i64 p.2) rfl (HR2c.out.alloc _) ⟨W3.heap.size, 0, none⟩ 1 1 [.int .i64 (ticks + d)] rfl (by decide) rfl ?d1 ?d2 ?d3 ?d4 ?_)
      case d1 => exact one_at W3 _ _
      case d2 => intro u hu; exact (List.all_eq_true (p := fun u : Value => u.oneCell')).1 rfl u hu
      case d3 => unfold maxLen; omega
      case d4 => omega
      intro v2' ob2' W4 hrow4 hg4 hob4
      have hzB : (W3.alloc (.cells #[.int .i64 (ticks + d)] 3)).heap.size = W3.heap.size + 1 := by simp
      have hz4 := hg4.size
      have hlt1 : ob1' < W3.heap.size := HR1c.out.lt
      have hob2 : w.heap.size + 1 < ob2' := by
        rcases hob4 with h | h
        · exact HG2.out _ h
        · omega
      have hob21 : ob1' ≠ ob2' := by
        rcases hob4 with h | h
        · intro e; exact HOB12.out (by rw [h, e])
        · omega
      have hA4 : ∀ b, b < W3.heap.size → ob2 ≠ some b → W4.heap[b]? = W3.heap[b]? := fun b hb hn => (hg4.block b (by omega) (fun e => hn e.symm)).trans (Below.heap_alloc _ _ _ hb)
      have HK4 : Hid (CkAt W4 w.heap.size now' (ticks + d) rho) := Lib.hid ((hA4 _ (by omega) (fun e => by have := HG2.out _ e; omega)).trans HK3.out)
      have HS4 : Hid (StAt W4 (w.heap.size + 1) 0 rho x1) := Lib.hid ((hA4 _ (by omega) (fun e => by have := HG2.out _ e; omega)).trans HS3.out)
      have HR1d := Lib.hid (HR1c.out.congr (w' := W4) fun g hg => hA4 g (by obtain rfl := Option.some.inj hg; exact hlt1) (fun e => by obtain rfl := Option.some.inj hg; exact HOB12.out e))
      have HB4 : Hid (Below w.heap.size w W4) := Lib.hid ((HB3.out.alloc HB3.out.size _).grown hg4 (by omega) (fun g e => by have := HG2.out _ e; omega))
      have HR2d := Lib.hid hrow4
      have HOB2 := Lib.hid hob2
      have HOB21 := Lib.hid hob21
      clear hg4 hob4 hrow4 hob2 hob21 hA4 HK3 HS3 HR2c HR1c HB3
      go_wp2_with fail
      go_at_call 26
      refine (CC.out _).mono ?_
      rintro e W5 ⟨rfl, hW5⟩
      have HW5 := Lib.hid hW5
      clear hW5
      go_wp2_with fail
      go_roundw
      case rel =>
        refine ⟨k + 1, by omega, by go_num, l ++ [(x1, ticks + d)], now', ticks + d, some ob1', some ob2', (by rw [List.length_append, HLEN.out]; rfl), HOK.out, HTK.out, (by rw [← HX1.out]; first | done | rfl | rw [hxc] | (rw [show wrap64 x1 = x1 by simp only [wrap64, IntKind.wrap_i64]; omega])), (by rw [← HX1.out]; first | done | rfl | rw [hxc] | (rw [show wrap64 x1 = x1 by simp only [wrap64, IntKind.wrap_i64]; omega])), (HW5.out.block _ (by omega)).trans HK4.out, by rw [← HX1.out]; exact (HW5.out.block _ (by omega)).trans HS4.out, ?_, ?_, fun g e => by obtain rfl := Option.some.inj e; exact HOB1.out, fun g e => by obtain rfl := Option.some.inj e; exact HOB2.out, fun g e e2 => by obtain rfl := Option.some.inj e; obtain rfl := Option.some.inj e2; exact HOB21.out rfl, by rw [← HX1.out]; exact HGD.out, HB4.out.trans (HW5.out.mono (by omega))⟩
        · rw [List.map_append]; exact HR1d.out.congr fun g hg => HW5.out.block g (by obtain rfl := Option.some.inj hg; exact HR1d.out.lt)
        · rw [List.map_append]; exact HR2d.out.congr fun g hg => HW5.out.block g (by obtain rfl := Option.some.inj hg; exact HR2d.out.lt)
      case measure => first | (simp [intOf]; done) | (simp [intOf]; omega)
    · obtain rfl : k = n1 := by omega
      obtain ⟨x0, hx0⟩ : ∃ x0, x0 = now / (1000 + rho) := ⟨_, rfl⟩
      obtain ⟨q0, q1, q2⟩ := ok.bd
      have hx0b : x0 ≤ 1000000000000000 := by rw [hx0]; have := Int.ediv_le_self (1000 + rho) q0; omega
      have htb : ticks ≤ 1000000000000000 := by omega
      rw [← hx0] at hgood ⊢
      have HGD := Lib.hid hgood
      have HR1 := Lib.hid hr1
      have HR2 := Lib.hid hr2
      have HB := Lib.hid hB
      have HLEN := Lib.hid hlen
      obtain ⟨ad1, cp1, rfl, u1, u2, hd1⟩ := hr1.shape
      obtain ⟨ad2, cp2, rfl, u3, u4, hd2⟩ := hr2.shape
      unfold maxLen at u2 u4
      have HD1 := Lib.hid hd1
      have HD2 := Lib.hid hd2
      clear hgood hr1 hr2 hB hlen hx0 hc hs g1 g2 g12 hd1 hd2 q0 q1 q2 ok
      obtain ⟨wo, rfl⟩ : ∃ wo : World, wo = wr := ⟨_, rfl⟩
      have g1 : (x0 == x0) = true := by simp
      go_wp2_with fail
      go_loopw [19] (fun vi wr => ∃ p : Nat, p ≤ k ∧ vi = .int .i64 p ∧ Below wo.heap.size wo wr) (fun vi _ => k - (intOf vi).toNat)
      case atStart => exact ⟨0, Nat.zero_le _, rfl, Below.refl _ _⟩
      case round =>
        obtain ⟨p, hp, rfl, hBx⟩ := hrel
        by_cases hpl : p < k
        · obtain ⟨wp, rfl⟩ : ∃ wp : World, wp = wr := ⟨_, rfl⟩
          go_wp2_with fail
          go_loopw [20] (fun vi wr => ∃ q : Nat, q ≤ p ∧ vi = .int .i64 q ∧ Below wo.heap.size wo wr) (fun vi _ => p - (intOf vi).toNat)
          case atStart => exact ⟨0, Nat.zero_le _, rfl, hBx⟩
          case round =>
            obtain ⟨q, hq, rfl, hBy⟩ := hrel
            by_cases hql : q < p
            · obtain ⟨gg1, hgg1, _, _⟩ := HR1.out.cell p (by omega)
              obtain ⟨gg2, hgg2, _, _⟩ := HR2.out.cell p (by omega)
              have hl1 : ad1 = some ⟨gg1, 0, none⟩ := by rw [HD1.out, hgg1]; rfl
              have hl2' : ad2 = some ⟨gg2, 0, none⟩ := by rw [HD2.out, hgg2]; rfl
              have hlen := HLEN.out
              obtain ⟨P, hP⟩ : ∃ P, l[p]? = some P := ⟨_, List.getElem?_eq_getElem (by omega)⟩
              obtain ⟨Q, hQ⟩ : ∃ Q, l[q]? = some Q := ⟨_, List.getElem?_eq_getElem (by omega)⟩
              obtain ⟨hg5, hg6⟩ := HGD.out.2 p q P Q hql hP hQ
              have hg7 := HGD.out.1 P (List.mem_of_getElem? hP)
              have hg8 := HGD.out.1 Q (List.mem_of_getElem? hQ)
              have hR1 := HR1.out
              have hR2 := HR2.out
              rw [hgg1] at hR1
              rw [hgg2] at hR2
              have k1 := (hBy.cell (p := ⟨gg1, p, none⟩) hR1.lt).trans (row_at hR1 p P hP)
              have k2 := (hBy.cell (p := ⟨gg1, q, none⟩) hR1.lt).trans (row_at hR1 q Q hQ)
              have k3 := (hBy.cell (p := ⟨gg2, p, none⟩) hR2.lt).trans (row_at hR2 p P hP)
              have k4 := (hBy.cell (p := ⟨gg2, q, none⟩) hR2.lt).trans (row_at hR2 q Q hQ)
              obtain ⟨xp, tp⟩ := P
              obtain ⟨xq, tq⟩ := Q
              simp only at k1 k2 k3 k4 hg5 hg6 hg7 hg8
              have HBy := Lib.hid hBy
              subst hl1 hl2'
              have d1 : decide (xp < xq) = false := by simp; omega
              have d2 : decide (tp - tq < xp - xq) = false := by simp; omega
              have d3 : IntKind.i64.wrap (xp - xq) = xp - xq := IntWalk.i64_in _ (by omega)
              have d4 : IntKind.i64.wrap (tp - tq) = tp - tq := IntWalk.i64_in _ (by omega)
              have d5 : decide ((q : Int) < (p : Int)) = true := by simp; omega
              have i1 : (0 : Int) ≤ (p : Int) := by omega
              have i2 : (p : Int) < (k : Int) := by omega
              have i3 : (0 : Int) ≤ (q : Int) := by omega
              have i4 : (q : Int) < (k : Int) := by omega
              clear hBy hP hQ hg5 hg6 hg7 hg8 hgg1 hgg2 hR1 hR2 hlen
              go_wp2_with fail
              go_quiet (fail)
              go_wp2_with fail
              go_roundw
              case rel => exact ⟨q + 1, by omega, by go_num, below_drewN' HBy.out _⟩
              case measure => first | (simp [intOf]; done) | (simp [intOf]; omega)
            · obtain rfl : q = p := by omega
              have HBy := Lib.hid hBy
              clear hBy
              go_wp2_with fail
              go_roundw
              case rel => exact ⟨q + 1, by omega, by go_num, HBy.out⟩
              case measure => first | (simp [intOf]; done) | (simp [intOf]; omega)
        · obtain rfl : p = k := by omega
          have HBy := Lib.hid hBx
          clear hBx
          go_wp2_with (go_at_call 23; refine (swakes_any _).mono ?_; rintro e WK ⟨rfl, hWK⟩)
          go_ret
          exact ⟨rfl, HB.out.trans ((HBy.out.mono HB.out.size).trans (hWK.mono (by have := HBy.out.size; have := HB.out.size; omega)))⟩

theorem stampNever_dt (rho : Int) (a1 : Option Addr) (n1 c1 : Nat) (xs1 : List Dt) (a2 : Option Addr) (n2 c2 : Nat) (xs2 : List Dt) (w : World) (h1 : SliceFits Try.prog w 3 a1 n1 c1 xs1) (h2 : SliceFits Try.prog w 3 a2 n2 c2 xs2) :
    Calls Try.prog 4 #[.int .i64 rho, .slice a1 n1 c1, .slice a2 n2 c2] w fun e w' => e = .returned (.bool true) ∧ Below w.heap.size w w' := by
  obtain ⟨b1, o1, T, hT⟩ := ints_cells w h1
  obtain ⟨b2, o2, S, hS⟩ := ints_cells w h2
  by_cases k1 : 100 < n1
  · exact snever_out rho a1 n1 c1 a2 n2 c2 h1.le h1.max h2.le h2.max w (.inl k1)
  · by_cases k2 : n2 < n1
    · exact snever_out rho a1 n1 c1 a2 n2 c2 h1.le h1.max h2.le h2.max w (.inr (.inl ⟨by omega, k2⟩))
    · by_cases k3 : rho < 0 ∨ 200 < rho
      · exact snever_out rho a1 n1 c1 a2 n2 c2 h1.le h1.max h2.le h2.max w (.inr (.inr ⟨by omega, by omega, k3⟩))
      · exact snever_in rho a1 n1 c1 b1 o1 T a2 n2 c2 b2 o2 S w (by omega) (by omega) (by omega) (by omega) hT hS
end Go.Proofs.Ytnaoajdbopminaa
