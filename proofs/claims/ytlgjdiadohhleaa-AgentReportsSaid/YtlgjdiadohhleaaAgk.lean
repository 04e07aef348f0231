/-
  AgentReports, walked.
-/
import Derived.Test.YtlgjdiadohhleaaAgj
import Derived.Test.YtlgjdiadohhleaaAge
namespace Go.Proofs.Ytlgjdiadohhleaa
open Go.RowKit
set_option linter.unusedSimpArgs false
set_option linter.unusedVariables false

def ir0 : Ag := ⟨1, 3, 1000000, 0, 0, false, 0, 0, 0, 0, 0⟩
def ir1 (SZ : Int) : Ag := ⟨1, 3, 1000000, 0, 1, true, 3, 1, 2, SZ, 0⟩
theorem ir_ask (SZ : Int) : ir0.ask 2 SZ 0 = ir1 SZ := by rfl

def Hd.sr (H : Hd) (F : Nat) (SZ sum re : Int) : Prop := match H with
  | .gone _ _ => sum = SZ ∧ re = sum
  | .one b _ x => x.id = 9 ∧ x.te = 2 ∧ x.le = SZ - sum ∧ x.sp = sum ∧ x.un = 1000000 ∧ x.re = re ∧ F ≤ b
/-- one lease, reported up to re; none, where all is spent -/
structure RepI (W : World) (g F : Nat) (SZ sum re : Int) (s : Ag) (H : Hd) : Prop where
  at_ : AgAt W g s H
  now : s.now ≤ 1
  sh : s.sh = 1
  ep : s.ep = 3
  s0 : 0 ≤ re
  s1 : re ≤ sum
  s2 : sum ≤ SZ
  held : H.sr F SZ sum re
theorem RepI.of_ {W : World} {g F : Nat} {SZ sum re : Int} {s : Ag} {H : Hd} (h : RepI W g F SZ sum re s H) : H.of_ 2 := by
  have := h.held
  cases H with
  | gone a c => trivial
  | one b c x => exact this.2.1
theorem RepI.ok {W : World} {g F : Nat} {SZ sum re : Int} {s : Ag} {H : Hd} (h : RepI W g F SZ sum re s H) (hz : SZ ≤ 1000000) : H.ok := by
  have h1 := h.held
  have h2 := h.s0
  have h3 := h.s1
  have h4 := h.s2
  cases H with
  | gone a c => trivial
  | one b c x => obtain ⟨_, _, h5, h6, _, h7, _⟩ := h1; exact ⟨by omega, by omega, by omega, by omega, by omega⟩
theorem RepI.tick {W : World} {g F : Nat} {SZ sum re : Int} {s : Ag} {H : Hd} (h : RepI W g F SZ sum re s H) : H.tick s 1 = H := by
  have h1 := h.held
  have h2 := h.now
  cases H with
  | gone a c => rfl
  | one b c x =>
    unfold Hd.tick
    refine keep_pos _ (decide_eq_true ?_)
    have := h1.2.2.2.2.1
    omega
theorem RepI.tok {W : World} {g F : Nat} {SZ sum re : Int} {s : Ag} {H : Hd} (h : RepI W g F SZ sum re s H) : H.tok 2 = SZ - sum := by
  have h1 := h.held
  cases H with
  | gone a c => show (0 : Int) = _; have := h1.1; omega
  | one b c x => exact (if_pos h1.2.1).trans h1.2.2.1
theorem RepI.bl {W : World} {g F : Nat} {SZ sum re : Int} {s : Ag} {H : Hd} (h : RepI W g F SZ sum re s H) : ∀ y ∈ H.bl, F ≤ y := by
  have h1 := h.held
  intro y hy
  cases H with
  | gone a c => simp [Hd.bl] at hy
  | one b c x => simp [Hd.bl] at hy; subst hy; exact h1.2.2.2.2.2.2
/-- behind a spending -/
theorem RepI.sp {W W' : World} {g F : Nat} {SZ sum re n : Int} {s : Ag} {H : Hd} (h : RepI W g F SZ sum re s H) (hA : AgAt W' g (s.tick 1) (H.spX n (SZ - sum))) :
    (0 ≤ n ∧ n ≤ SZ - sum → RepI W' g F SZ (sum + n) re (s.tick 1) (H.spX n (SZ - sum))) ∧ (¬ (0 ≤ n ∧ n ≤ SZ - sum) → RepI W' g F SZ sum re (s.tick 1) (H.spX n (SZ - sum))) := by
  have h1 := h.held
  have hn1 : (s.tick 1).now ≤ 1 := by show max s.now 1 ≤ 1; have := h.now; omega
  have h3 := h.s1
  have h4 := h.s2
  constructor
  · intro hn
    refine ⟨hA, hn1, h.sh, h.ep, h.s0, by omega, by omega, ?_⟩
    unfold Hd.spX
    rw [if_pos hn]
    cases H with
    | gone a c => obtain ⟨e1, e2⟩ := h1; exact ⟨by omega, by omega⟩
    | one b c x =>
      obtain ⟨e1, e2, e3, e4, e5, e6, e7⟩ := h1
      exact ⟨e1, e2, by show x.le - n = _; omega, by show x.sp + n = _; omega, e5, e6, e7⟩
  · intro hn
    refine ⟨hA, hn1, h.sh, h.ep, h.s0, h.s1, h.s2, ?_⟩
    unfold Hd.spX
    rw [if_neg hn]
    exact h1
/-- what is reported -/
theorem RepI.cmd {W : World} {g F : Nat} {SZ sum re : Int} {s : Ag} {H : Hd} (h : RepI W g F SZ sum re s H) : H.cmd s = if re < sum then some (cmdL 5 0 0 1 3 9 0 sum false) else none := by
  have h1 := h.held
  cases H with
  | gone a c => rw [if_neg (by have := h1.2; omega)]; rfl
  | one b c x =>
    obtain ⟨e1, e2, e3, e4, e5, e6, e7⟩ := h1
    show (if x.re < x.sp then some (cmdL 5 0 0 s.sh s.ep x.id 0 x.sp false) else none) = _
    rw [e1, e4, e6, h.sh, h.ep]
theorem RepI.rep {W W' : World} {g F : Nat} {SZ sum re : Int} {s : Ag} {H : Hd} (h : RepI W g F SZ sum re s H) (hA : AgAt W' g (s.tick 1) H.rep) : RepI W' g F SZ sum sum (s.tick 1) H.rep := by
  have h1 := h.held
  have hn1 : (s.tick 1).now ≤ 1 := by show max s.now 1 ≤ 1; have := h.now; omega
  refine ⟨hA, hn1, h.sh, h.ep, by have := h.s0; have := h.s1; omega, Int.le_refl _, h.s2, ?_⟩
  cases H with
  | gone a c => exact ⟨h1.1, rfl⟩
  | one b c x =>
    obtain ⟨e1, e2, e3, e4, e5, e6, e7⟩ := h1
    have h4 := h.s2
    unfold Hd.rep
    by_cases hle : 0 < x.le
    · simp only [if_pos hle]
      exact ⟨e1, e2, e3, e4, e5, e4, e7⟩
    · simp only [if_neg hle]
      exact ⟨by omega, rfl⟩
def Hd.pos (H : Hd) (SZ sum : Int) : Prop := match H with
  | .gone _ _ => True
  | .one _ _ _ => sum < SZ
theorem RepI.pos {W : World} {g F : Nat} {SZ sum re : Int} {s : Ag} {H : Hd} (h : RepI W g F SZ sum re s H) : H.rep.pos SZ sum := by
  have h1 := h.held
  cases H with
  | gone a c => trivial
  | one b c x =>
    obtain ⟨e1, e2, e3, e4, e5, e6, e7⟩ := h1
    show Hd.pos (if 0 < x.le then _ else _) SZ sum
    by_cases hle : 0 < x.le
    · rw [if_pos hle]
      show sum < SZ
      omega
    · rw [if_neg hle]
      trivial
theorem RepI.ccmd {W : World} {g F : Nat} {SZ sum re : Int} {s : Ag} {H : Hd} (h : RepI W g F SZ sum re s H) (hp : H.pos SZ sum) : H.ccmd s = if sum < SZ then some (cmdL 5 0 0 1 3 9 0 sum true) else none := by
  have h1 := h.held
  cases H with
  | gone a c => rw [if_neg (by have := h1.1; omega)]; rfl
  | one b c x =>
    obtain ⟨e1, e2, e3, e4, e5, e6, e7⟩ := h1
    have hp' : sum < SZ := hp
    rw [if_pos hp']
    show some (cmdL 5 0 0 s.sh s.ep x.id 0 x.sp true) = _
    rw [e1, e4, h.sh, h.ep]
theorem Hd.clo_gone (H : Hd) : ∃ a c, H.clo = .gone a c := by
  cases H with
  | gone a c => exact ⟨_, _, rfl⟩
  | one b c x => exact ⟨_, _, rfl⟩

set_option maxRecDepth 100000 in
set_option maxHeartbeats 32000000 in
theorem repo_walk (a0 : Int) (p1 : Option Addr) (len cap b1 o1 : Nat) (S : Nat → Int) (w : World) (hs : IntsIn w p1 len cap b1 o1 S) (hl : len ≤ 60) :
    Calls Try.prog 5 #[.int .i64 a0, .slice p1 len cap] w fun e w' => e = .returned (.bool true) ∧ Below w.heap.size w w' := by
  have m1 := hs.le
  have m2 := hs.max
  unfold maxLen at m2
  have HS := Lib.hid hs
  obtain ⟨q2, q3⟩ := wmod_bd a0 1000000 (by omega) (by omega)
  clear hs
  go_enter Try.func5, Try.ntmps5
  go_upto_region 4 with fail
  generalize (wrap64 (a0.tmod 1000000 + 1000000)).tmod 1000000 = Q1 at q2 q3 ⊢
  try rw [IntWalk.wrap64_in (1 + Q1) (by omega)]
  obtain ⟨SZ, hSZ⟩ : ∃ SZ, SZ = 1 + Q1 := ⟨_, rfl⟩
  rw [← hSZ]
  have s2 : 1 ≤ SZ ∧ SZ ≤ 1000000 := by omega
  clear hSZ q2 q3
  have HS2 := Lib.hid s2
  obtain ⟨s2a, s2b⟩ := s2
  go_wp2_with fail
  go_at_call 24
  refine (agNew_ok 1 3 1000 (by omega) (by omega) (by omega) w).mono ?_
  rintro e W1 ⟨rfl, h1, hw1⟩
  obtain ⟨g, hg⟩ : ∃ g, g = w.heap.size := ⟨_, rfl⟩
  rw [← hg] at h1
  rw [← hg]
  change AgAt W1 g ir0 (.gone none 0) at h1
  have HB1 : Hid (Below w.heap.size w W1) := Lib.hid (by rw [hw1]; exact (Below.refl _ _).alloc (Nat.le_refl _) _)
  have HG := Lib.hid hg
  have AK := ask_ok g ir0 (.gone none 0) 2 SZ 0 W1 h1 rfl (by omega) HS2.out (by omega) (by simp [ir0])
  simp only [cmdL] at AK
  rw [ir_ask SZ, show ir0.nu + 1 = 1 from rfl, show ir0.sh = 1 from rfl, show ir0.ep = 3 from rfl] at AK
  change Calls _ _ _ _ (fun e w' => _ ∧ AgAt w' g (ir1 SZ) (.gone none 0) ∧ Fr [g] W1 w') at AK
  have HAK := Lib.hid AK
  clear h1 hw1 hg AK
  go_wp2_with fail
  go_at_call 14
  refine Calls.mono HAK.out ?_
  rintro e W2 ⟨rfl, h2, hf⟩
  have HB2 := Lib.hid (HB1.out.trans (hf.below HB1.out.size (by have := HG.out; simp; omega)))
  have HA2 := Lib.hid h2
  clear h2 hf HAK HB1
  go_upto_region 8 with fail
  obtain ⟨T1, hT1⟩ : ∃ P, P = W2.heap.size := ⟨_, rfl⟩
  obtain ⟨W3, hW3⟩ : ∃ W, W = W2.alloc (.cells #[.int .i8 4, .int .i64 0, .int .i64 1, .int .i64 2, .int .i64 0, .int .i64 0, .int .i64 1, .int .i64 3, .int .i64 0, .int .i64 SZ, .int .i64 0, .bool false, .slice none 0 0] 31) := ⟨_, rfl⟩
  have hBx : Below W2.heap.size W2 W3 := by rw [hW3]; exact (Below.refl _ _).alloc (Nat.le_refl _) _
  have HT3 : Hid (Blk W3 T1 #[.int .i8 4, .int .i64 0, .int .i64 1, .int .i64 2, .int .i64 0, .int .i64 0, .int .i64 1, .int .i64 3, .int .i64 0, .int .i64 SZ, .int .i64 0, .bool false, .slice none 0 0] 31) := Lib.hid (by rw [hW3, hT1]; exact blk_new _ _ _)
  have HB3 := Lib.hid (HB2.out.trans (hBx.mono HB2.out.size))
  have HA3 := Lib.hid (HA2.out.below hBx)
  rw [← hT1]
  change Code.wp _ _ _ _ (W2.alloc (.cells #[.int .i8 4, .int .i64 0, .int .i64 1, .int .i64 2, .int .i64 0, .int .i64 0, .int .i64 1, .int .i64 3, .int .i64 0, .int .i64 SZ, .int .i64 0, .bool false, .slice none 0 0] 31))
  rw [← hW3]
  have t2 : W3.cell? ⟨T1, 2, none⟩ = some (.int .i64 1) := cell_at HT3.out 2
  have TD := told_ok g (ir1 SZ) 0 0 0 9 SZ W3 HA3.out rfl (by omega) s2a (by simp [ir1]) (by simp [ir1]) (by simp [ir1]) (by simp [ir1]) (by simp [ir1])
  have HTD := Lib.hid TD
  clear TD hT1 hW3 hBx HB2 HA2
  go_wp2_with fail
  go_at_call 17
  refine Calls.mono HTD.out ?_
  rintro e W7 ⟨hf, hcase⟩
  obtain ⟨_, b, c, rfl, h7, hb7⟩ | ⟨hno, _⟩ := hcase
  rotate_left
  · exfalso
    simp [ir1] at hno
  have HB7 := Lib.hid (HB3.out.trans (hf.below HB3.out.size (by have := HG.out; simp; omega)))
  have hI7 : RepI W7 g w.heap.size SZ 0 0 ((ir1 SZ).told 0) (.one b c ⟨9, 2, SZ, 1000000, 0, 0⟩) :=
    ⟨h7, by show max (0 : Int) 0 ≤ 1; omega, rfl, rfl, by omega, by omega, by omega, ⟨rfl, rfl, by show SZ = SZ - 0; omega, rfl, rfl, rfl, Nat.le_trans HB3.out.size hb7⟩⟩
  have HI7 := Lib.hid hI7
  clear h7 hf hb7 hI7 HTD HB3 HA3 HT3 t2
  go_wp2_with fail
  go_loopw [9, 10, 11] (fun v9 v10 v11 wr => ∃ (k : Nat) (sum : Int) (s : Ag) (H : Hd), k ≤ len ∧ v11 = .int .i64 k ∧ v9 = .int .i64 sum ∧ v10 = .int .i64 sum ∧ RepI wr g w.heap.size SZ sum sum s H ∧ H.pos SZ sum ∧ Below w.heap.size w wr) (fun _ _ vi _ => len - (intOf vi).toNat)
  case atStart => exact ⟨0, 0, _, _, Nat.zero_le _, rfl, rfl, rfl, HI7.out, (by show (0 : Int) < SZ; omega), HB7.out⟩
  case round =>
    clear HI7 HB7
    obtain ⟨k, sum, s, H, hk, rfl, rfl, rfl, hI, hpos, hB⟩ := hrel
    have HP := Lib.hid hpos
    have HI := Lib.hid hI
    have HB := Lib.hid hB
    have u0 : 0 ≤ sum := hI.s0
    have u1 : sum ≤ SZ := hI.s2
    clear hI hB hpos
    by_cases hlt : k < len
    · obtain ⟨e2, e3⟩ := (HS.out.below HB.out).at_ (by omega)
      subst e2
      have cs := (HS.out.below HB.out).cell k hlt
      obtain ⟨y, hy⟩ : ∃ y, y = S k := ⟨_, rfl⟩
      rw [← hy] at cs
      have hz : (SZ + 1 = 0) = False := eq_false (by omega)
      clear hy
      go_upto_region 14 with fail
      go_cut [12] (fun v wx => ∃ N, v = .int .i64 N ∧ wr = wx)
      case first =>
        go_wp2_with fail
        go_meet
        exact ⟨_, rfl, rfl⟩
      case rest =>
      obtain ⟨N, rfl, rfl⟩ := hcut
      clear cs hz e3
      -- spend
      have SP := spend_all g s H 2 N 1 wr HI.out.at_ (HI.out.ok s2b) (by rw [HI.out.tick]; exact HI.out.of_)
      rw [HI.out.tick, HI.out.tok] at SP
      have HSP := Lib.hid SP
      have HBLX := Lib.hid (fun y hy => HI.out.bl y hy)
      clear SP
      go_upto_region 15 with fail
      go_cut [59] (fun v wx => ∃ (s2 : Ag) (H2 : Hd), (((0 ≤ N ∧ N ≤ SZ - sum) ∧ v = .bool true ∧ RepI wx g w.heap.size SZ (sum + N) sum s2 H2) ∨ (¬ (0 ≤ N ∧ N ≤ SZ - sum) ∧ v = .bool false ∧ RepI wx g w.heap.size SZ sum sum s2 H2)) ∧ Below w.heap.size w wx)
      case first =>
        go_wp2_with fail
        go_at_call 18
        refine Calls.mono HSP.out ?_
        rintro e W9 ⟨rfl, h9, hf⟩
        have HB9 := Lib.hid (HB.out.trans (hf.below HB.out.size (by
          intro y hy
          simp only [List.mem_cons] at hy
          rcases hy with e | e
          · have := HG.out; omega
          · exact HBLX.out y e)))
        have HR9 := Lib.hid (HI.out.sp h9)
        clear h9 hf HSP HB HI HP
        by_cases c1 : N < 0
        · rw [show spE N (SZ - sum) = 2 from if_pos c1]
          go_wp2_with fail
          go_meet
          exact ⟨_, _, .inr ⟨by omega, rfl, HR9.out.2 (by omega)⟩, HB9.out⟩
        · by_cases c2 : SZ - sum < N
          · rw [show spE N (SZ - sum) = 170 from (if_neg c1).trans (if_pos c2)]
            go_wp2_with fail
            go_meet
            exact ⟨_, _, .inr ⟨by omega, rfl, HR9.out.2 (by omega)⟩, HB9.out⟩
          · rw [show spE N (SZ - sum) = 0 from (if_neg c1).trans (if_neg c2)]
            go_wp2_with fail
            go_meet
            exact ⟨_, _, .inl ⟨⟨by omega, by omega⟩, rfl, HR9.out.1 ⟨by omega, by omega⟩⟩, HB9.out⟩
      case rest =>
      obtain ⟨s2, H2, hcase, hB9⟩ := hcut
      have HC9 := Lib.hid hcase
      have HB9 := Lib.hid hB9
      obtain ⟨W9, hW9⟩ : ∃ W, W = wc := ⟨_, rfl⟩
      subst hW9
      clear hcase hB9 HSP HB HI HP HBLX
      obtain ⟨c9, hc9⟩ : ∃ c9, u59 = Value.bool c9 := by
        rcases HC9.out with ⟨_, e, _⟩ | ⟨_, e, _⟩
        · exact ⟨true, e⟩
        · exact ⟨false, e⟩
      subst hc9
      go_upto_if 59 with fail
      go_cut [9] (fun v wx => ∃ (sum2 : Int), v = .int .i64 sum2 ∧ sum ≤ sum2 ∧ sum2 ≤ SZ ∧ RepI wx g w.heap.size SZ sum2 sum s2 H2 ∧ W9 = wx)
      case first =>
        rcases HC9.out with ⟨hn, e, hR⟩ | ⟨hn, e, hR⟩
        · obtain rfl : c9 = true := by simpa using e
          obtain ⟨n1, n2⟩ := hn
          have HR := Lib.hid hR
          clear hR e HC9
          go_wp2_with fail
          go_meet
          exact ⟨sum + N, rfl, by omega, by omega, HR.out, rfl⟩
        · obtain rfl : c9 = false := by simpa using e
          have HR := Lib.hid hR
          clear hR e HC9 hn
          go_wp2_with fail
          go_meet
          exact ⟨sum, rfl, by omega, by omega, HR.out, rfl⟩
      case rest =>
      obtain ⟨sum2, rfl, w1, w2, hR, rfl⟩ := hcut
      have RP := reports_any g s2 H2 1 W9 hR.at_ (hR.ok s2b)
      rw [hR.tick, hR.cmd] at RP
      have HRP := Lib.hid RP
      have HR := Lib.hid hR
      clear RP hR HC9
      go_wp2_with fail
      go_at_call 20
      refine Calls.mono HRP.out ?_
      rintro e W10 ⟨hc, h10, hf⟩
      have HB10 := Lib.hid (HB9.out.trans (hf.below HB9.out.size (by
        intro y hy
        simp only [List.mem_cons] at hy
        rcases hy with e | e
        · have := HG.out; omega
        · exact HR.out.bl y e)))
      have HI10 := Lib.hid (HR.out.rep h10)
      have HP10 := Lib.hid HR.out.pos
      clear h10 hf HRP HB9 HR
      by_cases hlt2 : sum < sum2
      · rw [if_pos hlt2] at hc
        obtain ⟨r, kk, rfl, r1, r2, r3, r4⟩ := hc
        have L7 : W10.cell? ⟨r, 7, none⟩ = some (.int .i64 3) := by obtain ⟨_, er, q, _⟩ := r4.cell 7 (by omega); obtain rfl := Option.some.inj er; exact q
        have L8 : W10.cell? ⟨r, 8, none⟩ = some (.int .i64 9) := by obtain ⟨_, er, q, _⟩ := r4.cell 8 (by omega); obtain rfl := Option.some.inj er; exact q
        have L10 : W10.cell? ⟨r, 10, none⟩ = some (.int .i64 sum2) := by obtain ⟨_, er, q, _⟩ := r4.cell 10 (by omega); obtain rfl := Option.some.inj er; exact q
        have L11 : W10.cell? ⟨r, 11, none⟩ = some (.bool false) := by obtain ⟨_, er, q, _⟩ := r4.cell 11 (by omega); obtain rfl := Option.some.inj er; exact q
        have h2 : decide (sum < sum2) = true := decide_eq_true hlt2
        unfold maxLen at r2
        clear r4
        go_wp2_with fail
        go_roundw
        case rel => first | exact ⟨k + 1, sum2, _, _, by omega, by go_num, rfl, rfl, HI10.out, HP10.out, HB10.out⟩ | ((repeat apply Exists.intro); exact ⟨⟨by omega, by go_num, rfl, rfl, HI10.out, HP10.out, HB10.out⟩, rfl⟩)
        case measure => first | (simp [intOf]; done) | (simp [intOf]; omega)
      · rw [if_neg hlt2] at hc
        obtain rfl : e = .returned (.slice none 0 0) := hc
        have h2 : decide (sum < sum2) = false := decide_eq_false hlt2
        obtain rfl : sum2 = sum := by omega
        go_wp2_with fail
        go_roundw
        case rel => first | exact ⟨k + 1, sum2, _, _, by omega, by go_num, rfl, rfl, HI10.out, HP10.out, HB10.out⟩ | ((repeat apply Exists.intro); exact ⟨⟨by omega, by go_num, rfl, rfl, HI10.out, HP10.out, HB10.out⟩, rfl⟩)
        case measure => first | (simp [intOf]; done) | (simp [intOf]; omega)
    · obtain rfl : k = len := by omega
      have CL := close_any g s H 2 1 wr HI.out.at_ HI.out.of_ (HI.out.ok s2b)
      rw [HI.out.tick, HI.out.ccmd HP.out] at CL
      have HCL := Lib.hid CL
      clear CL
      go_wp2_with fail
      go_at_call 21
      refine Calls.mono HCL.out ?_
      rintro e W10 ⟨hc, h10, hf⟩
      have HB10 := Lib.hid (HB.out.trans (hf.below HB.out.size (by
        intro y hy
        simp only [List.mem_cons] at hy
        rcases hy with e | e
        · have := HG.out; omega
        · exact HI.out.bl y e)))
      obtain ⟨ga, gc, hgo⟩ := Hd.clo_gone H
      rw [hgo] at h10
      have TK := tokens_any g (s.tick 1) (.gone ga gc) 2 1 W10 h10 trivial
      have HTK := Lib.hid TK
      clear h10 hf HCL HB HI HP TK hgo
      by_cases hlz : sum < SZ
      · rw [if_pos hlz] at hc
        obtain ⟨r, kk, rfl, r1, r2, r3, r4⟩ := hc
        have L10 : W10.cell? ⟨r, 10, none⟩ = some (.int .i64 sum) := by obtain ⟨_, er, q, _⟩ := r4.cell 10 (by omega); obtain rfl := Option.some.inj er; exact q
        have L11 : W10.cell? ⟨r, 11, none⟩ = some (.bool true) := by obtain ⟨_, er, q, _⟩ := r4.cell 11 (by omega); obtain rfl := Option.some.inj er; exact q
        have h2 : decide (sum < SZ) = true := decide_eq_true hlz
        unfold maxLen at r2
        clear r4
        go_wp2_with fail
        go_at_call 19
        refine Calls.mono HTK.out ?_
        rintro e W11 ⟨rfl, h11, hf⟩
        rw [show Hd.tok (Hd.tick (.gone ga gc) (s.tick 1) 1) 2 = 0 from rfl]
        change AgAt W11 g ((s.tick 1).tick 1) (.gone ga gc) at h11
        have HB11 := Lib.hid (HB10.out.trans (hf.below HB10.out.size (by have := HG.out; simp [Hd.bl]; omega)))
        have SP := spend_all g ((s.tick 1).tick 1) (.gone ga gc) 2 1 1 W11 h11 trivial trivial
        rw [show spE 1 (Hd.tok (Hd.tick (.gone ga gc) ((s.tick 1).tick 1) 1) 2) = 170 from rfl] at SP
        have HSP := Lib.hid SP
        clear h11 hf SP HTK HB10
        go_wp2_with fail
        go_at_call 18
        refine Calls.mono HSP.out ?_
        rintro e W12 ⟨rfl, h12, hf⟩
        have HB12 := Lib.hid (HB11.out.trans (hf.below HB11.out.size (by have := HG.out; simp [Hd.bl]; omega)))
        clear h12 hf HSP HB11
        go_wp2_with fail
        go_at_call 23
        refine (agwakes_any _).mono ?_
        rintro e W13 ⟨rfl, hB⟩
        have HB13 := Lib.hid (HB12.out.trans (hB.mono HB12.out.size))
        clear hB HB12
        go_wp2_with fail
        go_ret
        exact ⟨rfl, HB13.out⟩
      · rw [if_neg hlz] at hc
        obtain rfl : e = .returned (.slice none 0 0) := hc
        have h2 : decide (sum < SZ) = false := decide_eq_false hlz
        go_wp2_with fail
        go_at_call 19
        refine Calls.mono HTK.out ?_
        rintro e W11 ⟨rfl, h11, hf⟩
        rw [show Hd.tok (Hd.tick (.gone ga gc) (s.tick 1) 1) 2 = 0 from rfl]
        change AgAt W11 g ((s.tick 1).tick 1) (.gone ga gc) at h11
        have HB11 := Lib.hid (HB10.out.trans (hf.below HB10.out.size (by have := HG.out; simp [Hd.bl]; omega)))
        have SP := spend_all g ((s.tick 1).tick 1) (.gone ga gc) 2 1 1 W11 h11 trivial trivial
        rw [show spE 1 (Hd.tok (Hd.tick (.gone ga gc) ((s.tick 1).tick 1) 1) 2) = 170 from rfl] at SP
        have HSP := Lib.hid SP
        clear h11 hf SP HTK HB10
        go_wp2_with fail
        go_at_call 18
        refine Calls.mono HSP.out ?_
        rintro e W12 ⟨rfl, h12, hf⟩
        have HB12 := Lib.hid (HB11.out.trans (hf.below HB11.out.size (by have := HG.out; simp [Hd.bl]; omega)))
        clear h12 hf HSP HB11
        go_wp2_with fail
        go_at_call 23
        refine (agwakes_any _).mono ?_
        rintro e W13 ⟨rfl, hB⟩
        have HB13 := Lib.hid (HB12.out.trans (hB.mono HB12.out.size))
        clear hB HB12
        go_wp2_with fail
        go_ret
        exact ⟨rfl, HB13.out⟩
end Go.Proofs.Ytlgjdiadohhleaa
