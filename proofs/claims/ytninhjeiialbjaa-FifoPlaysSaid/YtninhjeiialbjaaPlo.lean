/-
  The law FifoPlays, walked.
-/
import Derived.Test.YtninhjeiialbjaaPln
namespace Go.Proofs.Ytninhjeiialbjaa
open Go.RowKit
set_option linter.unusedSimpArgs false
set_option linter.unusedVariables false

theorem wpAnyH_impP {P : Program} {md : Region.Mode} {ops : Array Oper} {Q : Exit → Act → World → Prop} {S S' : World → Prop} (h : ∀ W, S' W → S W) : ∀ (fuel : Nat) (listed : Array Bool) (a : Act) (w : World), wpAnyH P md ops Q S' fuel listed a w → wpAnyH P md ops Q S fuel listed a w
  | 0, _, _, _, k => k
  | fuel + 1, _, _, _, k => ⟨k.1, fun i hi => wpOp_mono (fun a' w' q => ⟨h _ q.1, wpAnyH_impP h fuel _ a' w' q.2⟩) (k.2 i hi)⟩

/-- what the law's second loop keeps -/
def PlayI (w : World) (D R rm D2 k : Nat) (W : World) : Prop :=
  ∃ f m ob v E F dr, JQ W D R 0 rm f m dr D2 ob v E F ∧ 0 ≤ dr ∧ dr ≤ (k : Int) ∧ (∀ g, ob = some g → w.heap.size ≤ g) ∧ Below w.heap.size w W

set_option maxRecDepth 100000 in
set_option maxHeartbeats 20000000 in
theorem play_body (w wr : World) (a : Option Addr) (n c b o : Nat) (A : Nat → AcE) (hs : AcIn w a n c b o A) (hld : ∀ j, j < n → (A j).p.n ≤ 3000) (D R rm D2 k : Nat) (hn : n ≤ 300) (hk : k < n) (hB : w.heap.size ≤ D ∧ w.heap.size ≤ R ∧ w.heap.size ≤ D2) (hI : PlayI w D R rm D2 k wr) (x : AcE) (hx : x = A k) :
    (∀ i, i < 6 → wr.cell? ⟨b, o + k * 6 + i, none⟩ = x.cells[i]?) ∧ Calls Try.prog 37 #[.pointer (some ⟨D, 0, none⟩), .pointer (some ⟨D2, 0, none⟩), .agg #[.int .i64 x.d, .int .i64 x.k, .int .i64 x.p.num, .int .i64 x.p.t, .int .i64 x.p.c, .slice x.p.a x.p.n x.p.ca]] wr.drew fun e w' => e = .returned (.bool true) ∧ PlayI w D R rm D2 (k + 1) w' := by
  obtain ⟨f, m, ob, v, E, F, dr, hj, h1, h2, h3, h4⟩ := hI
  have hs2 := hs.below h4
  refine ⟨fun i hi => by rw [hx]; exact hs2.cell k hk i hi, ?_⟩
  have hl := hs2.ld k hk
  have hl0 := hs.ld k hk
  have hle := hld k hk
  rw [← hx] at hl hl0 hle
  have hdw : Below wr.heap.size wr wr.drew := (Below.refl _ _).drew
  refine (jstep_any w.heap.size D R 0 rm f m D2 dr ob v E F x.d x.k x.p.num x.p.t x.p.c x.p.a x.p.n x.p.ca x.p.b x.p.o x.p.X wr.drew (hj.below hdw) (hl.below hdw) (fun h => (hl0.at_ h).2) hle ⟨h1, by omega⟩ h4.size hB h3).mono ?_
  rintro e w' ⟨rfl, dr', hdr, f', m', ob', v', E', F', q1, q2, q3⟩
  exact ⟨rfl, f', m', ob', v', E', F', dr', q1, by omega, by omega, q2, h4.trans ⟨q3.os, q3.tape, q3.output, q3.size, q3.block⟩⟩

set_option maxRecDepth 100000 in
set_option maxHeartbeats 20000000 in
theorem fifoPlays_in (rm : Nat) (hr1 : 1 ≤ rm) (hr64 : rm ≤ 64) (a : Option Addr) (n c b o : Nat) (A : Nat → AcE) (w : World) (hs : AcIn w a n c b o A) (hn : n ≤ 300) (hld : ∀ j, j < n → (A j).p.n ≤ 3000) :
    Calls Try.prog 8 #[.int .i64 (rm : Int), .slice a n c] w fun e w' => e = .returned (.bool true) ∧ Below w.heap.size w w' := by
  have m1 := hs.le
  have m2 := hs.max
  unfold maxLen at m2
  have HS := Lib.hid hs
  have HLD := Lib.hid hld
  clear hs hld
  obtain ⟨D, hD⟩ : ∃ D, D = w.heap.size + 1 := ⟨_, rfl⟩
  obtain ⟨R, hR⟩ : ∃ R, R = w.heap.size := ⟨_, rfl⟩
  have HD := Lib.hid hD
  have HR := Lib.hid hR
  have HNW := Lib.hid (fnew_any rm (fun _ => nilP) w hr1 hr64)
  rw [← hD] at HNW
  have hp : ∀ W, (binOp .eql 60 (.pointer (some ⟨D, 0, none⟩)) (.pointer none)).run Try.prog W = .ok (.bool false) W := fun _ => rfl
  clear hD hR
  go_enter Try.func8, Try.ntmps8
  go_wp2_with fail
  go_loopw [5] (fun i wr => ∃ k : Nat, k ≤ n ∧ i = .int .i64 k ∧ w = wr) (fun i _ => n - (intOf i).toNat)
  case atStart => exact ⟨0, Nat.zero_le _, rfl, by first | rfl | trivial⟩
  case round =>
    obtain ⟨k, hk, rfl, rfl⟩ := hrel
    by_cases hlt : k < n
    · obtain ⟨e0, e1⟩ := HS.out.at_ (by omega)
      subst e0
      have t0 : w.cell? ⟨b, o + k * 6 + 5, none⟩ = some (.slice (A k).p.a (A k).p.n (A k).p.ca) := HS.out.cell k hlt 5 (by omega)
      obtain ⟨x, hx⟩ : ∃ x, x = (A k).p := ⟨_, rfl⟩
      have hle := HLD.out k hlt
      rw [← hx] at t0 hle
      clear hx
      go_wp2_with fail
      go_roundw
      case rel => exact ⟨k + 1, by omega, by go_num, by first | rfl | trivial⟩
      case measure => first | (simp [intOf]; done) | (simp [intOf]; omega)
    · obtain rfl : n = k := by omega
      clear hlt hk
      go_wp2_with fail
      go_at_call 35
      refine Calls.mono HNW.out ?_
      rintro e W1 ⟨rfl, hq1, hB1⟩
      have HQ1 := Lib.hid hq1
      have HB1 := Lib.hid hB1
      clear hq1 hB1 HNW
      go_wp2_with fail
      go_at_call 36
      refine Calls.mono (rnew_any (rm : Int) W1 (by omega) (by omega)) ?_
      rintro e W2 ⟨rfl, hW2⟩
      obtain ⟨D2, hD2⟩ : ∃ D2, D2 = W1.heap.size := ⟨_, rfl⟩
      have hB2 : Below W1.heap.size W1 W2 := by rw [← hW2]; exact (Below.refl _ _).alloc (Nat.le_refl _) _
      have hq2 : QIn W2 D R 0 rm 0 0 0 0 (fun _ => nilP) := (by rw [HR.out]; exact HQ1.out.below hB2)
      have hr2 : RQ W2 D2 (rm : Int) 0 0 none (.slice none 0 0) (fun _ => nilP) := by rw [hD2, ← hW2]; exact RQ.new W1 _ _
      have hD2w : w.heap.size ≤ D2 := by rw [hD2]; exact HB1.out.size
      have hDw : D = w.heap.size + 1 := HD.out
      have hRw : R = w.heap.size := HR.out
      have hDl : D < D2 := by rw [hD2]; exact HQ1.out.own.lt
      have hj : JQ W2 D R 0 rm 0 0 0 D2 none (.slice none 0 0) (fun _ => nilP) (fun _ => nilP) :=
        ⟨hq2, hr2, (fun j hj => by omega), ⟨by omega, by omega⟩, (fun g hg => by cases hg), (fun j hj => by omega), (fun j hj => by omega)⟩
      have hI : PlayI w D R rm D2 0 W2 := ⟨0, 0, none, _, _, _, 0, hj, by omega, by omega, (fun g hg => by cases hg), HB1.out.trans (hB2.mono HB1.out.size)⟩
      have HIP := Lib.hid hI
      have HBD : Hid (w.heap.size ≤ D ∧ w.heap.size ≤ R ∧ w.heap.size ≤ D2) := Lib.hid ⟨by omega, by omega, hD2w⟩
      rw [← hD2]
      clear hW2 hD2 hB2 hq2 hr2 hD2w hDw hRw hDl hj hI HQ1 HB1
      go_wp2_with fail
      go_loopw [10] (fun i wr => ∃ k : Nat, k ≤ n ∧ i = .int .i64 k ∧ PlayI w D R rm D2 k wr) (fun i _ => n - (intOf i).toNat)
      case atStart => exact ⟨0, Nat.zero_le _, rfl, HIP.out⟩
      case round =>
        obtain ⟨k, hk, rfl, hI⟩ := hrel
        by_cases hlt : k < n
        · have hAT := HS.out.at_ (by omega)
          obtain ⟨e0, e1⟩ := hAT
          subst e0
          obtain ⟨x, hx⟩ : ∃ x, x = A k := ⟨_, rfl⟩
          have hPB := play_body w wr (some ⟨b, o, none⟩) n c b o A HS.out HLD.out D R rm D2 k hn hlt HBD.out hI x hx
          obtain ⟨hcl, hstep⟩ := hPB
          have hbB : Below w.heap.size w wr := by obtain ⟨_, _, _, _, _, _, _, _, _, _, _, hb⟩ := hI; exact hb
          have hbl : b < wr.heap.size := by have := hbB.size; omega
          have a0 : wr.cell? ⟨b, o + k * 6, none⟩ = some (.int .i64 x.d) := hcl 0 (by omega)
          have a1 : wr.cell? ⟨b, o + k * 6 + 1, none⟩ = some (.int .i64 x.k) := hcl 1 (by omega)
          have a2 : wr.cell? ⟨b, o + k * 6 + 2, none⟩ = some (.int .i64 x.p.num) := hcl 2 (by omega)
          have a3 : wr.cell? ⟨b, o + k * 6 + 3, none⟩ = some (.int .i64 x.p.t) := hcl 3 (by omega)
          have a4 : wr.cell? ⟨b, o + k * 6 + 4, none⟩ = some (.int .i64 x.p.c) := hcl 4 (by omega)
          have a5 : wr.cell? ⟨b, o + k * 6 + 5, none⟩ = some (.slice x.p.a x.p.n x.p.ca) := hcl 5 (by omega)
          have HST := Lib.hid hstep
          have HAS : Hid (∀ X, Below w.heap.size w X → X.cell? ⟨b, o + k * 6, none⟩ = some (.int .i64 x.d) ∧ X.cell? ⟨b, o + k * 6 + 1, none⟩ = some (.int .i64 x.k) ∧ X.cell? ⟨b, o + k * 6 + 2, none⟩ = some (.int .i64 x.p.num) ∧ X.cell? ⟨b, o + k * 6 + 3, none⟩ = some (.int .i64 x.p.t) ∧ X.cell? ⟨b, o + k * 6 + 4, none⟩ = some (.int .i64 x.p.c) ∧ X.cell? ⟨b, o + k * 6 + 5, none⟩ = some (.slice x.p.a x.p.n x.p.ca) ∧ b < X.heap.size) := Lib.hid (fun X hX => by
            have q := fun i => (hX.cell (p := ⟨b, i, none⟩) e1).trans (hbB.cell (p := ⟨b, i, none⟩) e1).symm
            exact ⟨(q _).trans a0, (q _).trans a1, (q _).trans a2, (q _).trans a3, (q _).trans a4, (q _).trans a5, by have := hX.size; omega⟩)
          have HBB := Lib.hid hbB
          clear hI hcl hstep hx hbB
          go_upto_region 15 with fail
          refine wp_region_held_drew (S := fun X => X.cell? ⟨b, o + k * 6, none⟩ = some (.int .i64 x.d) ∧ X.cell? ⟨b, o + k * 6 + 1, none⟩ = some (.int .i64 x.k) ∧ X.cell? ⟨b, o + k * 6 + 2, none⟩ = some (.int .i64 x.p.num) ∧ X.cell? ⟨b, o + k * 6 + 3, none⟩ = some (.int .i64 x.p.t) ∧ X.cell? ⟨b, o + k * 6 + 4, none⟩ = some (.int .i64 x.p.c) ∧ X.cell? ⟨b, o + k * 6 + 5, none⟩ = some (.slice x.p.a x.p.n x.p.ca) ∧ b < X.heap.size) (by kernel_rfl) (HAS.out _ HBB.out.drew) (fun hHeld => ?_)
          clear a0 a1 a2 a3 a4 a5 hbl
          ((refine wpAnyH_take (i := 0) (v := ?_) (by (simp only [List.getElem?_toArray, List.getElem?_cons_succ, List.getElem?_cons_zero]); rfl) (by kernel_rfl) (by kernel_rfl) (by kernel_rfl) (by exact fun _ _ _ h => h) (Or.inl ⟨by rfl, ?_⟩) (by assumption) ?_); rotate_left; focus (intro wS hSw; (try dsimp only at hSw); go_simp; first | done | with_reducible rfl); try simp only [Act.put, List.setIfInBounds_toArray, List.set_cons_zero, List.set_cons_succ])
          ((refine wpAnyH_take (i := 1) (v := ?_) (by (simp only [List.getElem?_toArray, List.getElem?_cons_succ, List.getElem?_cons_zero]); rfl) (by kernel_rfl) (by kernel_rfl) (by kernel_rfl) (by exact fun _ _ _ h => h) (Or.inl ⟨by rfl, ?_⟩) (by assumption) ?_); rotate_left; focus (intro wS hSw; (try dsimp only at hSw); go_simp; first | done | with_reducible rfl); try simp only [Act.put, List.setIfInBounds_toArray, List.set_cons_zero, List.set_cons_succ])
          ((refine wpAnyH_take (i := 2) (v := ?_) (by (simp only [List.getElem?_toArray, List.getElem?_cons_succ, List.getElem?_cons_zero]); rfl) (by kernel_rfl) (by kernel_rfl) (by kernel_rfl) (by exact fun _ _ _ h => h) (Or.inl ⟨by rfl, ?_⟩) (by assumption) ?_); rotate_left; focus (intro wS hSw; (try dsimp only at hSw); go_simp; first | done | with_reducible rfl); try simp only [Act.put, List.setIfInBounds_toArray, List.set_cons_zero, List.set_cons_succ])
          ((refine wpAnyH_take (i := 3) (v := ?_) (by (simp only [List.getElem?_toArray, List.getElem?_cons_succ, List.getElem?_cons_zero]); rfl) (by kernel_rfl) (by kernel_rfl) (by kernel_rfl) (by exact fun _ _ _ h => h) (Or.inl ⟨by rfl, ?_⟩) (by assumption) ?_); rotate_left; focus (intro wS hSw; (try dsimp only at hSw); go_simp; first | done | with_reducible rfl); try simp only [Act.put, List.setIfInBounds_toArray, List.set_cons_zero, List.set_cons_succ])
          ((refine wpAnyH_take (i := 4) (v := ?_) (by (simp only [List.getElem?_toArray, List.getElem?_cons_succ, List.getElem?_cons_zero]); rfl) (by kernel_rfl) (by kernel_rfl) (by kernel_rfl) (by exact fun _ _ _ h => h) (Or.inl ⟨by rfl, ?_⟩) (by assumption) ?_); rotate_left; focus (intro wS hSw; (try dsimp only at hSw); go_simp; first | done | with_reducible rfl); try simp only [Act.put, List.setIfInBounds_toArray, List.set_cons_zero, List.set_cons_succ])
          ((refine wpAnyH_take (i := 5) (v := ?_) (by (simp only [List.getElem?_toArray, List.getElem?_cons_succ, List.getElem?_cons_zero]); rfl) (by kernel_rfl) (by kernel_rfl) (by kernel_rfl) (by exact fun _ _ _ h => h) (Or.inl ⟨by rfl, ?_⟩) (by assumption) ?_); rotate_left; focus (intro wS hSw; (try dsimp only at hSw); go_simp; first | done | with_reducible rfl); try simp only [Act.put, List.setIfInBounds_toArray, List.set_cons_zero, List.set_cons_succ])
          ((refine wpAnyH_ready (rs := [6]) (by kernel_rfl) (by simp) ?_); (refine AllReadyH.cons (by (simp only [List.getElem?_toArray, List.getElem?_cons_succ, List.getElem?_cons_zero]); rfl) (fun K hK => ?_) AllReadyH.nil); go_simp; refine Calls.mono HST.out ?_)
          rintro e W3 ⟨rfl, f', m', ob', v', E', F', dr', q1, q2, q3, q4, q5⟩
          have HJ := Lib.hid q1
          have hm64 : m' ≤ 64 := Nat.le_trans q1.q.nl q1.q.r64
          obtain ⟨va, vc, rfl, _, _⟩ := q1.r.shape
          have HQ5 := Lib.hid q5
          have HDR : Hid (0 ≤ dr' ∧ dr' ≤ ((k + 1 : Nat) : Int) ∧ ∀ g, ob' = some g → w.heap.size ≤ g) := Lib.hid ⟨q2, q3, q4⟩
          clear q1 q2 q3 q4 q5
          go_wp2_with fail
          refine hK.out _ _ (HAS.out _ HQ5.out) (fun hHeld => ?_)
          clear hK K
          try simp only [Act.put, List.setIfInBounds_toArray, List.set_cons_zero, List.set_cons_succ]
          have HSS : Hid (∀ X, JQ X D R 0 rm f' m' dr' D2 ob' (.slice va m' vc) E' F' → Below w.heap.size w X → (X.cell? ⟨b, o + k * 6, none⟩ = some (.int .i64 x.d) ∧ X.cell? ⟨b, o + k * 6 + 1, none⟩ = some (.int .i64 x.k) ∧ X.cell? ⟨b, o + k * 6 + 2, none⟩ = some (.int .i64 x.p.num) ∧ X.cell? ⟨b, o + k * 6 + 3, none⟩ = some (.int .i64 x.p.t) ∧ X.cell? ⟨b, o + k * 6 + 4, none⟩ = some (.int .i64 x.p.c) ∧ X.cell? ⟨b, o + k * 6 + 5, none⟩ = some (.slice x.p.a x.p.n x.p.ca) ∧ b < X.heap.size) ∧ X.cell? ⟨D2, 1, none⟩ = some (.slice va m' vc) ∧ X.cell? ⟨D2, 2, none⟩ = some (.int .i64 dr') ∧ D2 < X.heap.size) := Lib.hid (fun X h1 h2 => ⟨HAS.out X h2, cell_at h1.r.own 1, cell_at h1.r.own 2, h1.r.own.lt⟩)
          refine wpAnyH_impP (S' := fun X => (X.cell? ⟨b, o + k * 6, none⟩ = some (.int .i64 x.d) ∧ X.cell? ⟨b, o + k * 6 + 1, none⟩ = some (.int .i64 x.k) ∧ X.cell? ⟨b, o + k * 6 + 2, none⟩ = some (.int .i64 x.p.num) ∧ X.cell? ⟨b, o + k * 6 + 3, none⟩ = some (.int .i64 x.p.t) ∧ X.cell? ⟨b, o + k * 6 + 4, none⟩ = some (.int .i64 x.p.c) ∧ X.cell? ⟨b, o + k * 6 + 5, none⟩ = some (.slice x.p.a x.p.n x.p.ca) ∧ b < X.heap.size) ∧ X.cell? ⟨D2, 1, none⟩ = some (.slice va m' vc) ∧ X.cell? ⟨D2, 2, none⟩ = some (.int .i64 dr') ∧ D2 < X.heap.size) (fun _ h => h.1) _ _ _ _ ?_
          replace hHeld := HSS.out _ HJ.out HQ5.out
          ((refine wpAnyH_take (i := 7) (v := ?_) (by (simp only [List.getElem?_toArray, List.getElem?_cons_succ, List.getElem?_cons_zero]); rfl) (by kernel_rfl) (by kernel_rfl) (by kernel_rfl) (by exact fun _ _ _ h => h) (Or.inl ⟨by rfl, ?_⟩) (by assumption) ?_); rotate_left; focus (intro wS hSw; (try dsimp only at hSw); go_simp; first | done | with_reducible rfl); try simp only [Act.put, List.setIfInBounds_toArray, List.set_cons_zero, List.set_cons_succ])
          ((refine wpAnyH_take (i := 8) (v := ?_) (by (simp only [List.getElem?_toArray, List.getElem?_cons_succ, List.getElem?_cons_zero]); rfl) (by kernel_rfl) (by kernel_rfl) (by kernel_rfl) (by exact fun _ _ _ h => h) (Or.inl ⟨by rfl, ?_⟩) (by assumption) ?_); rotate_left; focus (intro wS hSw; (try dsimp only at hSw); go_simp; first | done | with_reducible rfl); try simp only [Act.put, List.setIfInBounds_toArray, List.set_cons_zero, List.set_cons_succ])
          ((refine wpAnyH_take (i := 9) (v := ?_) (by (simp only [List.getElem?_toArray, List.getElem?_cons_succ, List.getElem?_cons_zero]); rfl) (by kernel_rfl) (by kernel_rfl) (by kernel_rfl) (by exact fun _ _ _ h => h) (Or.inl ⟨by (go_simp; try rfl), ?_⟩) (by assumption) ?_); rotate_left; focus (intro wS hSw; (try dsimp only at hSw); go_simp; first | done | with_reducible rfl); try simp only [Act.put, List.setIfInBounds_toArray, List.set_cons_zero, List.set_cons_succ])
          ((refine wpAnyH_take (i := 11) (v := ?_) (by (simp only [List.getElem?_toArray, List.getElem?_cons_succ, List.getElem?_cons_zero]); rfl) (by kernel_rfl) (by kernel_rfl) (by kernel_rfl) (by exact fun _ _ _ h => h) (Or.inl ⟨by (go_simp; try rfl), ?_⟩) (by assumption) ?_); rotate_left; focus (intro wS hSw; (try dsimp only at hSw); go_simp; first | done | with_reducible rfl); try simp only [Act.put, List.setIfInBounds_toArray, List.set_cons_zero, List.set_cons_succ])
          ((refine wpAnyH_take (i := 12) (v := ?_) (by (simp only [List.getElem?_toArray, List.getElem?_cons_succ, List.getElem?_cons_zero]); rfl) (by kernel_rfl) (by kernel_rfl) (by kernel_rfl) (by exact fun _ _ _ h => h) (Or.inl ⟨by (go_simp; try rfl), ?_⟩) (by assumption) ?_); rotate_left; focus (intro wS hSw; (try dsimp only at hSw); go_simp; first | done | with_reducible rfl); try simp only [Act.put, List.setIfInBounds_toArray, List.set_cons_zero, List.set_cons_succ])
          ((refine wpAnyH_take (i := 13) (v := ?_) (by (simp only [List.getElem?_toArray, List.getElem?_cons_succ, List.getElem?_cons_zero]); rfl) (by kernel_rfl) (by kernel_rfl) (by kernel_rfl) (by exact fun _ _ _ h => h) (Or.inl ⟨by (go_simp; try rfl), ?_⟩) (by assumption) ?_); rotate_left; focus (intro wS hSw; (try dsimp only at hSw); go_simp; first | done | with_reducible rfl); try simp only [Act.put, List.setIfInBounds_toArray, List.set_cons_zero, List.set_cons_succ])
          ((refine wpAnyH_take (i := 14) (v := ?_) (by (simp only [List.getElem?_toArray, List.getElem?_cons_succ, List.getElem?_cons_zero]); rfl) (by kernel_rfl) (by kernel_rfl) (by kernel_rfl) (by exact fun _ _ _ h => h) (Or.inl ⟨by (go_simp; try rfl), ?_⟩) (by assumption) ?_); rotate_left; focus (intro wS hSw; (try dsimp only at hSw); go_simp; first | done | with_reducible rfl); try simp only [Act.put, List.setIfInBounds_toArray, List.set_cons_zero, List.set_cons_succ])
          ((refine wpAnyH_take (i := 15) (v := ?_) (by (simp only [List.getElem?_toArray, List.getElem?_cons_succ, List.getElem?_cons_zero]); rfl) (by kernel_rfl) (by kernel_rfl) (by kernel_rfl) (by exact fun _ _ _ h => h) (Or.inl ⟨by (go_simp; try rfl), ?_⟩) (by assumption) ?_); rotate_left; focus (intro wS hSw; (try dsimp only at hSw); go_simp; first | done | with_reducible rfl); try simp only [Act.put, List.setIfInBounds_toArray, List.set_cons_zero, List.set_cons_succ])
          ((refine wpAnyH_ready (rs := [10]) (by kernel_rfl) (by simp) ?_); (refine AllReadyH.cons (by (simp only [List.getElem?_toArray, List.getElem?_cons_succ, List.getElem?_cons_zero]); rfl) (fun K hK => ?_) AllReadyH.nil); go_simp; refine Calls.mono (flen_any D R 0 rm f' m' _ dr' E' W3 HJ.out.q) ?_)
          rintro e X ⟨rfl, rfl⟩
          (go_wp2_with fail; (refine hK.out _ _ (HSS.out _ HJ.out HQ5.out) (fun hHeld => ?_)); clear hK K; try simp only [Act.put, List.setIfInBounds_toArray, List.set_cons_zero, List.set_cons_succ])
          ((refine wpAnyH_take (i := 16) (v := ?_) (by (simp only [List.getElem?_toArray, List.getElem?_cons_succ, List.getElem?_cons_zero]); rfl) (by kernel_rfl) (by kernel_rfl) (by kernel_rfl) (by exact fun _ _ _ h => h) (Or.inl ⟨by (go_simp; try rfl), ?_⟩) (by assumption) ?_); rotate_left; focus (intro wS hSw; (try dsimp only at hSw); go_simp; first | done | with_reducible rfl); try simp only [Act.put, List.setIfInBounds_toArray, List.set_cons_zero, List.set_cons_succ])
          ((refine wpAnyH_take (i := 17) (v := ?_) (by (simp only [List.getElem?_toArray, List.getElem?_cons_succ, List.getElem?_cons_zero]); rfl) (by kernel_rfl) (by kernel_rfl) (by kernel_rfl) (by exact fun _ _ _ h => h) (Or.inl ⟨by rfl, ?_⟩) (by assumption) ?_); rotate_left; focus (intro wS hSw; (try dsimp only at hSw); go_simp; first | done | with_reducible rfl); try simp only [Act.put, List.setIfInBounds_toArray, List.set_cons_zero, List.set_cons_succ])
          ((refine wpAnyH_take (i := 18) (v := ?_) (by (simp only [List.getElem?_toArray, List.getElem?_cons_succ, List.getElem?_cons_zero]); rfl) (by kernel_rfl) (by kernel_rfl) (by kernel_rfl) (by exact fun _ _ _ h => h) (Or.inl ⟨by rfl, ?_⟩) (by assumption) ?_); rotate_left; focus (intro wS hSw; (try dsimp only at hSw); go_simp; first | done | with_reducible rfl); try simp only [Act.put, List.setIfInBounds_toArray, List.set_cons_zero, List.set_cons_succ])
          ((refine wpAnyH_take (i := 19) (v := ?_) (by (simp only [List.getElem?_toArray, List.getElem?_cons_succ, List.getElem?_cons_zero]); rfl) (by kernel_rfl) (by kernel_rfl) (by kernel_rfl) (by exact fun _ _ _ h => h) (Or.inl ⟨by (go_simp; try rfl), ?_⟩) (by assumption) ?_); rotate_left; focus (intro wS hSw; (try dsimp only at hSw); go_simp; first | done | with_reducible rfl); try simp only [Act.put, List.setIfInBounds_toArray, List.set_cons_zero, List.set_cons_succ])
          ((refine wpAnyH_take (i := 21) (v := ?_) (by (simp only [List.getElem?_toArray, List.getElem?_cons_succ, List.getElem?_cons_zero]); rfl) (by kernel_rfl) (by kernel_rfl) (by kernel_rfl) (by exact fun _ _ _ h => h) (Or.inl ⟨by (go_simp; try rfl), ?_⟩) (by assumption) ?_); rotate_left; focus (intro wS hSw; (try dsimp only at hSw); go_simp; first | done | with_reducible rfl); try simp only [Act.put, List.setIfInBounds_toArray, List.set_cons_zero, List.set_cons_succ])
          ((refine wpAnyH_ready (rs := [20]) (by kernel_rfl) (by simp) ?_); (refine AllReadyH.cons (by (simp only [List.getElem?_toArray, List.getElem?_cons_succ, List.getElem?_cons_zero]); rfl) (fun K hK => ?_) AllReadyH.nil); go_simp; refine Calls.mono (fbytes_any D R 0 rm f' m' _ dr' E' W3 HJ.out.q) ?_)
          rintro e X ⟨rfl, rfl⟩
          (go_wp2_with fail; (refine hK.out _ _ (HSS.out _ HJ.out HQ5.out) (fun hHeld => ?_)); clear hK K; try simp only [Act.put, List.setIfInBounds_toArray, List.set_cons_zero, List.set_cons_succ])
          ((refine wpAnyH_ready (rs := [22]) (by kernel_rfl) (by simp) ?_); (refine AllReadyH.cons (by (simp only [List.getElem?_toArray, List.getElem?_cons_succ, List.getElem?_cons_zero]); rfl) (fun K hK => ?_) AllReadyH.nil); go_simp; refine Calls.mono (rbytes_any D2 (rm : Int) m' dr' ob' _ F' W3 HJ.out.r hm64) ?_)
          rintro e W4 ⟨rfl, hB4⟩
          have hj4 := HJ.out.below hB4
          have hb4 : Below w.heap.size w W4 := HQ5.out.trans (hB4.mono HQ5.out.size)
          have HJ4 := Lib.hid hj4
          have HB4 := Lib.hid hb4
          clear hB4 hj4 hb4
          rw [← HJ4.out.sums]
          (go_wp2_with fail; (refine hK.out _ _ (HSS.out _ HJ4.out HB4.out) (fun hHeld => ?_)); clear hK K; try simp only [Act.put, List.setIfInBounds_toArray, List.set_cons_zero, List.set_cons_succ])
          ((refine wpAnyH_take (i := 23) (v := ?_) (by (simp only [List.getElem?_toArray, List.getElem?_cons_succ, List.getElem?_cons_zero]); rfl) (by kernel_rfl) (by kernel_rfl) (by kernel_rfl) (by exact fun _ _ _ h => h) (Or.inl ⟨by (go_simp; try rfl), ?_⟩) (by assumption) ?_); rotate_left; focus (intro wS hSw; (try dsimp only at hSw); go_simp; first | done | with_reducible rfl); try simp only [Act.put, List.setIfInBounds_toArray, List.set_cons_zero, List.set_cons_succ])
          ((refine wpAnyH_take (i := 24) (v := ?_) (by (simp only [List.getElem?_toArray, List.getElem?_cons_succ, List.getElem?_cons_zero]); rfl) (by kernel_rfl) (by kernel_rfl) (by kernel_rfl) (by exact fun _ _ _ h => h) (Or.inl ⟨by rfl, ?_⟩) (by assumption) ?_); rotate_left; focus (intro wS hSw; (try dsimp only at hSw); go_simp; first | done | with_reducible rfl); try simp only [Act.put, List.setIfInBounds_toArray, List.set_cons_zero, List.set_cons_succ])
          ((refine wpAnyH_take (i := 25) (v := ?_) (by (simp only [List.getElem?_toArray, List.getElem?_cons_succ, List.getElem?_cons_zero]); rfl) (by kernel_rfl) (by kernel_rfl) (by kernel_rfl) (by exact fun _ _ _ h => h) (Or.inl ⟨by rfl, ?_⟩) (by assumption) ?_); rotate_left; focus (intro wS hSw; (try dsimp only at hSw); go_simp; first | done | with_reducible rfl); try simp only [Act.put, List.setIfInBounds_toArray, List.set_cons_zero, List.set_cons_succ])
          ((refine wpAnyH_take (i := 26) (v := ?_) (by (simp only [List.getElem?_toArray, List.getElem?_cons_succ, List.getElem?_cons_zero]); rfl) (by kernel_rfl) (by kernel_rfl) (by kernel_rfl) (by exact fun _ _ _ h => h) (Or.inl ⟨by (go_simp; try rfl), ?_⟩) (by assumption) ?_); rotate_left; focus (intro wS hSw; (try dsimp only at hSw); go_simp; first | done | with_reducible rfl); try simp only [Act.put, List.setIfInBounds_toArray, List.set_cons_zero, List.set_cons_succ])
          ((refine wpAnyH_take (i := 28) (v := ?_) (by (simp only [List.getElem?_toArray, List.getElem?_cons_succ, List.getElem?_cons_zero]); rfl) (by kernel_rfl) (by kernel_rfl) (by kernel_rfl) (by exact fun _ _ _ h => h) (Or.inl ⟨by (go_simp; try rfl), ?_⟩) (by assumption) ?_); rotate_left; focus (intro wS hSw; (try dsimp only at hSw); go_simp; first | done | with_reducible rfl); try simp only [Act.put, List.setIfInBounds_toArray, List.set_cons_zero, List.set_cons_succ])
          ((refine wpAnyH_take (i := 29) (v := ?_) (by (simp only [List.getElem?_toArray, List.getElem?_cons_succ, List.getElem?_cons_zero]); rfl) (by kernel_rfl) (by kernel_rfl) (by kernel_rfl) (by exact fun _ _ _ h => h) (Or.inl ⟨by (go_simp; try rfl), ?_⟩) (by assumption) ?_); rotate_left; focus (intro wS hSw; (try dsimp only at hSw); go_simp; first | done | with_reducible rfl); try simp only [Act.put, List.setIfInBounds_toArray, List.set_cons_zero, List.set_cons_succ])
          ((refine wpAnyH_take (i := 30) (v := ?_) (by (simp only [List.getElem?_toArray, List.getElem?_cons_succ, List.getElem?_cons_zero]); rfl) (by kernel_rfl) (by kernel_rfl) (by kernel_rfl) (by exact fun _ _ _ h => h) (Or.inl ⟨by (go_simp; try rfl), ?_⟩) (by assumption) ?_); rotate_left; focus (intro wS hSw; (try dsimp only at hSw); go_simp; first | done | with_reducible rfl); try simp only [Act.put, List.setIfInBounds_toArray, List.set_cons_zero, List.set_cons_succ])
          ((refine wpAnyH_take (i := 31) (v := ?_) (by (simp only [List.getElem?_toArray, List.getElem?_cons_succ, List.getElem?_cons_zero]); rfl) (by kernel_rfl) (by kernel_rfl) (by kernel_rfl) (by exact fun _ _ _ h => h) (Or.inl ⟨by (go_simp; try rfl), ?_⟩) (by assumption) ?_); rotate_left; focus (intro wS hSw; (try dsimp only at hSw); go_simp; first | done | with_reducible rfl); try simp only [Act.put, List.setIfInBounds_toArray, List.set_cons_zero, List.set_cons_succ])
          ((refine wpAnyH_ready (rs := [27]) (by kernel_rfl) (by simp) ?_); (refine AllReadyH.cons (by (simp only [List.getElem?_toArray, List.getElem?_cons_succ, List.getElem?_cons_zero]); rfl) (fun K hK => ?_) AllReadyH.nil); go_simp; refine Calls.mono (fdrops_any D R 0 rm f' m' _ dr' E' W4 HJ4.out.q) ?_)
          rintro e X ⟨rfl, rfl⟩
          (go_wp2_with fail; (refine hK.out _ _ (HSS.out _ HJ4.out HB4.out) (fun hHeld => ?_)); clear hK K; try simp only [Act.put, List.setIfInBounds_toArray, List.set_cons_zero, List.set_cons_succ])
          ((refine wpAnyH_take (i := 32) (v := ?_) (by (simp only [List.getElem?_toArray, List.getElem?_cons_succ, List.getElem?_cons_zero]); rfl) (by kernel_rfl) (by kernel_rfl) (by kernel_rfl) (by exact fun _ _ _ h => h) (Or.inl ⟨by (go_simp; try rfl), ?_⟩) (by assumption) ?_); rotate_left; focus (intro wS hSw; (try dsimp only at hSw); go_simp; first | done | with_reducible rfl); try simp only [Act.put, List.setIfInBounds_toArray, List.set_cons_zero, List.set_cons_succ])
          ((refine wpAnyH_take (i := 33) (v := ?_) (by (simp only [List.getElem?_toArray, List.getElem?_cons_succ, List.getElem?_cons_zero]); rfl) (by kernel_rfl) (by kernel_rfl) (by kernel_rfl) (by exact fun _ _ _ h => h) (Or.inl ⟨by rfl, ?_⟩) (by assumption) ?_); rotate_left; focus (intro wS hSw; (try dsimp only at hSw); go_simp; first | done | with_reducible rfl); try simp only [Act.put, List.setIfInBounds_toArray, List.set_cons_zero, List.set_cons_succ])
          refine wpAnyH_done (by kernel_rfl) ?_ _
          go_wp2_with fail
          go_roundw
          case rel => exact ⟨k + 1, by omega, by go_num, f', m', ob', _, E', F', dr', HJ4.out, HDR.out.1, HDR.out.2.1, HDR.out.2.2, HB4.out⟩
          case measure => first | (simp [intOf]; done) | (simp [intOf]; omega)
        · obtain rfl : n = k := by omega
          clear hlt hk
          obtain ⟨f', m', ob', v', E', F', dr', q1, q2, q3, q4, q5⟩ := hI
          obtain ⟨va, vc, rfl, _, _⟩ := q1.r.shape
          have c1 : wr.cell? ⟨D2, 1, none⟩ = some (.slice va m' vc) := cell_at q1.r.own 1
          have l2 := q1.r.own.lt
          have HT := Lib.hid (told_any D R 0 rm f' m' dr' D2 ob' _ E' F' 0 wr q1)
          have HQ5 := Lib.hid q5
          clear q1 q2 q3 q4 q5
          go_wp2_with (first
            | (go_at_call 42; refine Calls.mono HT.out ?_; rintro e W3 ⟨rfl, hB3⟩; have HB3 := Lib.hid hB3; clear hB3)
            | (go_at_call 34; refine (fwakes_any _).mono ?_; rintro e WK ⟨rfl, hWK⟩)
            | fail)
          go_ret
          have h3 := HQ5.out.trans (HB3.out.mono HQ5.out.size)
          exact ⟨rfl, h3.trans (hWK.mono h3.size)⟩

set_option maxRecDepth 100000 in
set_option maxHeartbeats 8000000 in
theorem fifoPlays_bad (room : Int) (hbad : room < 1 ∨ (1 ≤ room ∧ 64 < room)) (a : Option Addr) (n c b o : Nat) (A : Nat → AcE) (w : World) (hs : AcIn w a n c b o A) (hn : n ≤ 300) (hld : ∀ j, j < n → (A j).p.n ≤ 3000) :
    Calls Try.prog 8 #[.int .i64 room, .slice a n c] w fun e w' => e = .returned (.bool true) ∧ Below w.heap.size w w' := by
  have m1 := hs.le
  have m2 := hs.max
  unfold maxLen at m2
  have HS := Lib.hid hs
  have HLD := Lib.hid hld
  have HNW := Lib.hid (fnew_bad room w hbad)
  have HRW := Lib.hid (rnew_bad room w hbad)
  have hp : ∀ W, (binOp .eql 60 (.pointer none) (.pointer none)).run Try.prog W = .ok (.bool true) W := fun _ => rfl
  clear hs hld hbad
  go_enter Try.func8, Try.ntmps8
  go_wp2_with fail
  go_loopw [5] (fun i wr => ∃ k : Nat, k ≤ n ∧ i = .int .i64 k ∧ w = wr) (fun i _ => n - (intOf i).toNat)
  case atStart => exact ⟨0, Nat.zero_le _, rfl, by first | rfl | trivial⟩
  case round =>
    obtain ⟨k, hk, rfl, rfl⟩ := hrel
    by_cases hlt : k < n
    · obtain ⟨e0, e1⟩ := HS.out.at_ (by omega)
      subst e0
      have t0 : w.cell? ⟨b, o + k * 6 + 5, none⟩ = some (.slice (A k).p.a (A k).p.n (A k).p.ca) := HS.out.cell k hlt 5 (by omega)
      obtain ⟨x, hx⟩ : ∃ x, x = (A k).p := ⟨_, rfl⟩
      have hle := HLD.out k hlt
      rw [← hx] at t0 hle
      clear hx
      go_wp2_with fail
      go_roundw
      case rel => exact ⟨k + 1, by omega, by go_num, by first | rfl | trivial⟩
      case measure => first | (simp [intOf]; done) | (simp [intOf]; omega)
    · obtain rfl : n = k := by omega
      clear hlt hk
      go_wp2_with fail
      go_at_call 35
      refine Calls.mono HNW.out ?_
      rintro e W1 ⟨rfl, rfl⟩
      go_wp2_with fail
      go_at_call 36
      refine Calls.mono HRW.out ?_
      rintro e W1 ⟨rfl, rfl⟩
      go_wp2_with fail
      go_loopw [10] (fun i wr => i = .int .i64 0 ∧ w = wr) (fun _ _ => 0)
      case atStart => exact ⟨rfl, by first | rfl | trivial⟩
      case round =>
        obtain ⟨rfl, rfl⟩ := hrel
        by_cases h0 : 0 < n
        · go_wp2_with (first
            | (go_at_call 34; refine (fwakes_any _).mono ?_; rintro e WK ⟨rfl, hWK⟩)
            | fail)
          go_ret
          exact ⟨rfl, hWK⟩
        · obtain rfl : n = 0 := by omega
          go_wp2_with (first
            | (go_at_call 34; refine (fwakes_any _).mono ?_; rintro e WK ⟨rfl, hWK⟩)
            | fail)
          go_ret
          exact ⟨rfl, hWK⟩

set_option maxRecDepth 100000 in
set_option maxHeartbeats 8000000 in
theorem fifoPlays_out (room : Int) (a : Option Addr) (n c b o : Nat) (A : Nat → AcE) (w : World) (hs : AcIn w a n c b o A) (hout : ¬(n ≤ 300 ∧ ∀ j, j < n → (A j).p.n ≤ 3000)) :
    Calls Try.prog 8 #[.int .i64 room, .slice a n c] w fun e w' => e = .returned (.bool true) ∧ Below w.heap.size w w' := by
  have m1 := hs.le
  have m2 := hs.max
  unfold maxLen at m2
  have HS := Lib.hid hs
  have HO := Lib.hid hout
  clear hs hout
  go_enter Try.func8, Try.ntmps8
  go_wp2_with fail
  go_loopw [5] (fun i wr => ∃ k : Nat, k ≤ n ∧ k ≤ 301 ∧ i = .int .i64 k ∧ (∀ j, j < k → (A j).p.n ≤ 3000) ∧ w = wr) (fun i _ => n - (intOf i).toNat)
  case atStart => exact ⟨0, Nat.zero_le _, by omega, rfl, (fun j hj => by omega), by first | rfl | trivial⟩
  case round =>
    obtain ⟨k, hk, hk3, rfl, hall, rfl⟩ := hrel
    have HA := Lib.hid hall
    clear hall
    by_cases hlt : k < n
    · by_cases h3 : k ≤ 300
      · obtain ⟨e0, e1⟩ := HS.out.at_ (by omega)
        subst e0
        have t0 : w.cell? ⟨b, o + k * 6 + 5, none⟩ = some (.slice (A k).p.a (A k).p.n (A k).p.ca) := HS.out.cell k hlt 5 (by omega)
        have hle := (HS.out.ld k hlt).le
        have hmx := (HS.out.ld k hlt).max
        unfold maxLen at hmx
        obtain ⟨x, hx⟩ : ∃ x, x = (A k).p := ⟨_, rfl⟩
        rw [← hx] at t0 hle hmx
        have HX := Lib.hid hx
        clear hx
        by_cases hbig : 3000 < x.n
        · go_wp2_with (first
            | (go_at_call 34; refine (fwakes_any _).mono ?_; rintro e WK ⟨rfl, hWK⟩)
            | fail)
          go_ret
          exact ⟨rfl, hWK⟩
        · go_wp2_with fail
          go_roundw
          case rel =>
            refine ⟨k + 1, by omega, by omega, by go_num, fun j hj => ?_, by first | rfl | trivial⟩
            by_cases hjk : j = k
            · subst hjk; rw [← HX.out]; omega
            · exact HA.out j (by omega)
          case measure => first | (simp [intOf]; done) | (simp [intOf]; omega)
      · go_wp2_with (first
            | (go_at_call 34; refine (fwakes_any _).mono ?_; rintro e WK ⟨rfl, hWK⟩)
            | fail)
        go_ret
        exact ⟨rfl, hWK⟩
    · obtain rfl : n = k := by omega
      have h300 : 300 < n := Nat.lt_of_not_le fun h => HO.out ⟨h, HA.out⟩
      clear hlt hk
      go_wp2_with (first
            | (go_at_call 34; refine (fwakes_any _).mono ?_; rintro e WK ⟨rfl, hWK⟩)
            | fail)
      go_ret
      exact ⟨rfl, hWK⟩

theorem fifoPlays_dt (room : Int) (a : Option Addr) (n c : Nat) (xs : List Dt) (w : World) (h : SliceFits Try.prog w 59 a n c xs) :
    Calls Try.prog 8 #[.int .i64 room, .slice a n c] w fun e w' => e = .returned (.bool true) ∧ Below w.heap.size w w' := by
  obtain ⟨b, o, A, hA⟩ := acts_cells w h
  by_cases k1 : n ≤ 300 ∧ ∀ j, j < n → (A j).p.n ≤ 3000
  · by_cases k2 : 1 ≤ room ∧ room ≤ 64
    · obtain ⟨rm, rfl⟩ : ∃ rm : Nat, room = (rm : Int) := ⟨room.toNat, by omega⟩
      exact fifoPlays_in rm (by omega) (by omega) a n c b o A w hA k1.1 k1.2
    · exact fifoPlays_bad room (by omega) a n c b o A w hA k1.1 k1.2
  · exact fifoPlays_out room a n c b o A w hA k1
end Go.Proofs.Ytninhjeiialbjaa
