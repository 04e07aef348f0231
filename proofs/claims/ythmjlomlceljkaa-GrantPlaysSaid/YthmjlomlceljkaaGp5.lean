/-
  What is over: the document.
-/
import Derived.Test.YthmjlomlceljkaaGp4
import Derived.Test.YthmjlomlceljkaaHi3
import Derived.Deep.DeepFit
import Derived.Lib.AppendZeros
import Derived.Deep.RegionLaw
import Derived.Deep.RegionWith
import Derived.Lib.EndianBits
import Derived.Deep.MidRow
namespace Go.Proofs.Ythmjlomlceljkaa
open Go.RowKit
set_option linter.unusedSimpArgs false
set_option linter.unusedVariables false

set_option maxRecDepth 100000 in
set_option maxHeartbeats 40000000 in
theorem rover2_any (t s0 s1 s2 : Int) (M g : Nat) (tk rho el now : Int) (vl vt : Value) (ol ot : Option Nat) (Ls Ts : List Int) (a : Option Addr) (n cap bl o : Nat) (F : Nat → LeE) (w : World) (hs : LeIn w a n cap bl o F) (hn : n ≤ 4096) (hg : bl ≠ g) (h : RDk M w g tk rho el now vl vt ol ot Ls Ts) (h2 : Ls.length = Ts.length) (he0 : 0 ≤ el) (hn0 : 0 ≤ now) (ht : t ≤ 9223372036854775807) (hnx : now ≤ 9223372036854775807) (hex : el ≤ 9223372036854775807) (hT0 : ∀ x ∈ Ts, 0 ≤ x) :
    Calls Try.prog 18 #[.pointer (some ⟨g, 0, none⟩), .agg #[.int .i64 s0, .int .i64 s1, .int .i64 s2, .slice none 0 0, .slice a n cap, .slice none 0 0, .slice none 0 0], .int .i64 t] w fun e w' => ∃ v ob, e = .returned v ∧ InO w.heap.size w' v ob (srt (tkL (rOvB el (max now t) (overS tk rho) Ls Ts) F n)) ∧ RDk M w' g tk rho el (max now t) vl vt ol ot Ls Ts ∧ Fr [g] w w' ∧ Below M w w' := by
  have m1 := hs.le
  have m2 := hs.max
  unfold maxLen at m2
  obtain ⟨la, lN, lcap, rfl, HLN, l1, l2⟩ := h.ls.v.sh
  obtain ⟨ta, tN, tcap, rfl, HTN, t1, t2⟩ := h.ts.v.sh
  have hM : M ≤ w.heap.size := by have := h.blk.lt; have := h.ge; omega
  obtain ⟨Nw, hNw⟩ : ∃ N, N = max now t := ⟨_, rfl⟩
  have e1 : (if now < t then t else now) = Nw := by rw [hNw]; split <;> omega
  rw [← hNw]
  have hNb : 0 ≤ Nw ∧ Nw ≤ 9223372036854775807 := by omega
  obtain ⟨N, hN⟩ : ∃ N, N = w.heap.size := ⟨_, rfl⟩
  obtain ⟨W1, hW1⟩ : ∃ X, X = w.alloc (.cells #[.int .i64 s0, .int .i64 s1, .int .i64 s2, .slice none 0 0, .slice a n cap, .slice none 0 0, .slice none 0 0] 42) := ⟨_, rfl⟩
  have hB1 : Below w.heap.size w W1 := by rw [hW1]; exact (Below.refl _ _).alloc (Nat.le_refl _) _
  have q1 : Blk W1 N #[.int .i64 s0, .int .i64 s1, .int .i64 s2, .slice none 0 0, .slice a n cap, .slice none 0 0, .slice none 0 0] 42 := by rw [hW1, hN]; exact blk_new _ _ _
  have r1 := h.step hB1
  have hs1 := hs.below hB1
  have hM1 : M ≤ W1.heap.size := Nat.le_trans hM hB1.size
  have c3 : W1.cell? ⟨g, 3, none⟩ = some (.int .i64 now) := cell_at r1.blk 3
  have cz : ∀ j, W1.frozen? ⟨g, j, none⟩ = false := fun j => free_at r1.blk j
  have cl : g < W1.heap.size := r1.blk.lt
  obtain ⟨W2, hW2⟩ : ∃ X, X = W1.setCell ⟨g, 3, none⟩ (.int .i64 Nw) := ⟨_, rfl⟩
  obtain ⟨r2, hBT2⟩ := r1.set hW2 hM1
  have hB2 := hBT2.b
  clear hBT2
  have hfr : Fr [g] W1 W2 := by rw [hW2]; exact (Fr.refl _ _).setCell _ (.inl (by simp)) _
  have hNg : N ≠ g := by have := h.blk.lt; omega
  have q2 : Blk W2 N #[.int .i64 s0, .int .i64 s1, .int .i64 s2, .slice none 0 0, .slice a n cap, .slice none 0 0, .slice none 0 0] 42 := (hfr.block N q1.lt (by simpa using hNg)).trans q1
  have hsz : W2.heap.size = W1.heap.size := by rw [hW2]; simp
  have hs2 : LeIn W2 a n cap bl o F := ⟨hs1.le, hs1.max, fun hk => ⟨(hs1.at_ hk).1, by rw [hsz]; exact (hs1.at_ hk).2⟩, fun k hk => by
    have hc := hs1.cell k hk
    have hb := (hs1.at_ (by omega)).2
    have hcc : ∀ j, W2.cell? ⟨bl, j, none⟩ = W1.cell? ⟨bl, j, none⟩ := fun j => by unfold World.cell?; rw [hfr.block bl hb (by simpa using hg)]
    simpa only [hcc] using hc, hs1.bd⟩
  have HFR := Lib.hid (show Fr [g] w W2 from ((Fr.of_below hB1).mono (by simp)).trans hfr (by simp))
  have HBM := Lib.hid (show Below M w W2 from (hB1.mono hM).trans hB2)
  have HSZ := Lib.hid (show w.heap.size ≤ W2.heap.size from by rw [hsz]; exact hB1.size)
  have HS0 := Lib.hid hs2
  have HR0 := Lib.hid r2
  have HQ0 := Lib.hid q2
  have H2 := Lib.hid h2
  have HT0 := Lib.hid hT0
  have HNB := Lib.hid hNb
  have HE0 := Lib.hid (And.intro he0 hex)
  have HM := Lib.hid (show M ≤ W2.heap.size from Nat.le_trans hM1 hB2.size)
  obtain ⟨BB, hBB⟩ : ∃ B, B = rOvB el Nw (overS tk rho) Ls Ts := ⟨_, rfl⟩
  rw [← hBB]
  have HBB := Lib.hid hBB
  have HW1 := Lib.hid hW1
  have HW2 := Lib.hid hW2
  have HNN := Lib.hid hN
  clear hW1 hW2 hN r1 hs1 q1 hfr hNg q2 hsz hs2 hB1 hB2 r2 h2 hT0 hNb hNw he0 hn0 ht hex hnx hM hM1 hs h hBB
  go_enter Try.func18, Try.ntmps18
  go_upto_region 1 with fail
  have hW1 := HW1.out
  rw [← HNN.out, ← hW1]
  clear hW1 HW1
  go_upto_region 2 with fail
  have hW2 := HW2.out
  rw [← hW2]
  clear hW2 HW2 c3 cz cl e1
  go_wp2_with fail
  go_loopw [7, 8, 9, 10, 11, 12, 13] (fun vo i _ _ _ _ _ wr => ∃ (k : Nat) (oo : Option Nat), k ≤ n ∧ i = .int .i64 k ∧ InO W2.heap.size wr vo oo (srt (tkL BB F k)) ∧ Below W2.heap.size W2 wr) (fun _ i _ _ _ _ _ _ => n - (intOf i).toNat)
  case atStart => exact ⟨0, none, Nat.zero_le _, rfl, by rw [show srt (tkL BB F 0) = [] from by simp [srt, tkL]]; exact ino_nil _ _, Below.refl _ _⟩
  case round =>
    obtain ⟨k, oo, hk, rfl, hO, hB⟩ := hrel
    have HB := Lib.hid hB
    have HO := Lib.hid hO
    have HR := Lib.hid (HR0.out.step hB)
    have f4 : wr.cell? ⟨N, 4, none⟩ = some (.slice a n cap) := cell_at (HQ0.out.step hB) 4
    obtain ⟨va, vn, vc, rfl, HVN, v1, v2⟩ := hO.v.sh
    clear hB hO
    by_cases hlt : k < n
    rotate_left
    · obtain rfl : k = n := by omega
      go_wp2_with fail
      try rw [Exit.noGoto_ret]
      go_ret
      exact ⟨_, oo, rfl, ⟨HO.out.1, HO.out.2.1, fun z e => Nat.le_trans HSZ.out (HO.out.2.2 z e)⟩, HR.out, HFR.out.trans (Fr.of_below HB.out) (by simp), HBM.out.trans (HB.out.mono HM.out)⟩
    have hS := HS0.out.below HB.out
    obtain ⟨ea, hbl⟩ := hS.at_ (by omega)
    subst ea
    have c0 := (hS.cell k hlt).1
    have hxo := (hS.bd k hlt).1
    obtain ⟨x, hx⟩ : ∃ x, x = (F k).id := ⟨_, rfl⟩
    rw [← hx] at c0 hxo
    have HXO := Lib.hid hxo
    have HX := Lib.hid hx
    have HF := Lib.hid (fun W (h : RDk M W g tk rho el Nw (.slice la lN lcap) (.slice ta tN tcap) ol ot Ls Ts) => rfind_any x M g tk rho el Nw _ _ ol ot Ls Ts W h)
    have hRl := fnd_lt x Ls 0
    obtain ⟨R, hR⟩ : ∃ R, R = fnd x 0 Ls := ⟨_, rfl⟩
    rw [← hR] at HF hRl
    have HRR := Lib.hid hR
    have HRL := Lib.hid hRl
    have f2 : wr.cell? ⟨g, 2, none⟩ = some (.int .i64 el) := cell_at HR.out.blk 2
    have ww5 : IntKind.i64.wrap ((k : Int) + 1) = (k : Int) + 1 := IntWalk.i64_in _ (by omega)
    have b9 : ((k : Int) < (n : Int)) = True := eq_true (by omega)
    have bk1 : (k < n) = True := eq_true hlt
    have HLT := Lib.hid hlt
    clear hS hbl hxo hx hR hRl hlt
    go_wp2_with fail
    go_at_call 37
    go_fit (HF.out wr HR.out)
    rintro e W3 ⟨rfl, rfl⟩
    clear HF
    obtain ⟨AT, hAT⟩ : ∃ y, y = if R < 0 then el else gI Ts R.toNat := ⟨_, rfl⟩
    have hA0 : 0 ≤ AT ∧ AT ≤ 9223372036854775807 := by
      rw [hAT]
      split
      · exact HE0.out
      · have hq : R.toNat < Ts.length := by have := HRL.out; have := H2.out; omega
        have h3 := gI_lt hq
        exact ⟨HT0.out _ (List.mem_of_getElem? h3), (HR.out.ts.2.1 _ (List.mem_of_getElem? h3)).2⟩
    have hbx : BB x = decide (overS tk rho ≤ Nw - AT) := by rw [HBB.out]; unfold rOvB; rw [← HRR.out, ← hAT]
    have HBX := Lib.hid hbx
    have HTK : Hid (tkL BB F (k + 1) = tkL BB F k ++ if BB x then [x] else []) := Lib.hid (by rw [HX.out]; rfl)
    have ww6 : IntKind.i64.wrap (Nw - AT) = Nw - AT := IntWalk.i64_in _ (by have := HNB.out; omega)
    have HWW6 := Lib.hid ww6
    have HAT := Lib.hid hAT
    have HOV := Lib.hid (fun W => rover_any tk rho W)
    obtain ⟨LA, hLA⟩ : ∃ y, y = overS tk rho := ⟨_, rfl⟩
    rw [← hLA] at HOV HBX
    clear hA0 hbx hAT hLA ww6
    have f0 : wr.cell? ⟨g, 0, none⟩ = some (.int .i64 tk) := cell_at HR.out.blk 0
    have f1 : wr.cell? ⟨g, 1, none⟩ = some (.int .i64 rho) := cell_at HR.out.blk 1
    have f3 : wr.cell? ⟨g, 3, none⟩ = some (.int .i64 Nw) := cell_at HR.out.blk 3
    by_cases c3 : R < 0
    · skip
      have d3 : decide (0 ≤ R) = false := decide_eq_false (by omega)
      have hae : AT = el := by rw [HAT.out, if_pos c3]
      clear c3
      subst hae
      have ww6 := HWW6.out
      by_cases c4 : Nw - AT < LA
      · have d4 : decide (Nw - AT < LA) = true := decide_eq_true c4
        have HTK2 : Hid (tkL BB F (k + 1) = tkL BB F k) := Lib.hid (by rw [HTK.out, HBX.out, decide_eq_false (by omega)]; simp)
        clear c4
        go_wp2_with fail
        (refine wp_region_quiet_lit (by kernel_rfl) (by kernel_rfl) ?_; (repeat (first | go_big_quiet_step ((go_at_call 38; exact quiet_left (HOV.out _))) | (refine BigFrame.wpQuiet_skip (by rfl) ?_; try simp only [Act.put, List.setIfInBounds_toArray, List.set_cons_zero, List.set_cons_succ]))); refine wpQuiet_nil ?_; intro _ hw9; obtain ⟨nq, hw8⟩ := hw9; subst hw8)
        obtain ⟨W4, hW4⟩ : ∃ X, X = wr.drewN nq := ⟨_, rfl⟩
        rw [← hW4]
        have hB4 : Below wr.heap.size wr W4 := by rw [hW4]; exact dN _ _
        clear hW4 f0 f1 f2 f3 f4 
        have hM4 : W2.heap.size ≤ wr.heap.size := HB.out.size
        replace HB := Lib.hid (HB.out.trans (hB4.mono hM4))
        replace HO := Lib.hid (HO.out.step hB4)
        clear hB4 hM4 HR
        go_wp2_with fail
        go_roundw
        case rel => exact ⟨k + 1, oo, by have := HLT.out; omega, by go_num, by rw [HTK2.out]; exact HO.out, HB.out⟩
        case measure => (have h8 := HLT.out; first | (simp [intOf]; done) | (simp [intOf]; omega))
      have d4 : decide (Nw - AT < LA) = false := decide_eq_false c4
      have HTK2 : Hid (tkL BB F (k + 1) = tkL BB F k ++ [x]) := Lib.hid (by rw [HTK.out, HBX.out, decide_eq_true (by omega)]; rfl)
      clear c4
      go_wp2_with fail
      (refine wp_region_quiet_lit (by kernel_rfl) (by kernel_rfl) ?_; (repeat (first | go_big_quiet_step ((go_at_call 38; exact quiet_left (HOV.out _))) | (refine BigFrame.wpQuiet_skip (by rfl) ?_; try simp only [Act.put, List.setIfInBounds_toArray, List.set_cons_zero, List.set_cons_succ]))); refine wpQuiet_nil ?_; intro _ hw9; obtain ⟨nq, hw8⟩ := hw9; subst hw8)
      obtain ⟨W4, hW4⟩ : ∃ X, X = wr.drewN nq := ⟨_, rfl⟩
      rw [← hW4]
      have hB4 : Below wr.heap.size wr W4 := by rw [hW4]; exact dN _ _
      clear hW4 f0 f1 f2 f3 f4 
      have hM4 : W2.heap.size ≤ wr.heap.size := HB.out.size
      replace HB := Lib.hid (HB.out.trans (hB4.mono hM4))
      replace HO := Lib.hid (HO.out.step hB4)
      clear hB4 hM4 HR
      have hM4 : W2.heap.size ≤ W4.heap.size := HB.out.size
      have hB5 : Below W4.heap.size W4 (W4.alloc (.cells #[.int .i64 x] 3)) := (Below.refl _ _).alloc (Nat.le_refl _) _
      obtain ⟨v5, o5, W5, hrun, hio, hgr, hnw, hlo⟩ := in_grow (M := W2.heap.size) (ty := 33) (HO.out.step hB5) (blk_new W4 #[.int .i64 x] 3) HXO.out (Nat.le_trans hM4 hB5.size) (by rw [srt_len]; have := tkL_len BB F k; have := HLT.out; omega)
      obtain ⟨m5, hm5⟩ : ∃ m, m = (srt (tkL BB F k)).length := ⟨_, rfl⟩
      obtain ⟨n5, hn5⟩ : ∃ m, m = m5 + 1 := ⟨_, rfl⟩
      have hl5 : (srt (tkL BB F k) ++ [x]).length = n5 := by rw [List.length_append, List.length_singleton, ← hm5, hn5]
      have hsh : ∃ c5, v5 = .slice (some ⟨o5, 0, none⟩) n5 c5 := by
        rcases hio.1.cases with ⟨e1, _⟩ | ⟨g5, c5, cur, e1, e2, _⟩
        · cases e1
        · obtain rfl := Option.some.inj e1
          exact ⟨c5, by rw [e2, hl5]⟩
      obtain ⟨c5, rfl⟩ := hsh
      have HIO := Lib.hid hio
      have HRUN := Lib.hid hrun
      have HB6 := Lib.hid (HB.out.trans ((hB5.mono hM4).trans hlo))
      have hm12 : m5 ≤ 4096 := by rw [hm5, srt_len]; have := tkL_len BB F k; have := HLT.out; omega
      have wm : IntKind.i64.wrap ((n5 : Int) - 1) = (m5 : Int) := (IntWalk.i64_in _ (by omega)).trans (by omega)
      have HM5 := Lib.hid hm5
      have HN5 := Lib.hid hn5
      have HM12 := Lib.hid hm12
      clear hM4 hB5 hrun hio hgr hnw hlo hl5 hm5 hn5 hm12 HB HO c0
      go_wp2_with (at_builtin; refine Lib.wpList_append_run _ rfl (.tmp 68) (.tmp 70) 33 33 rfl _ _ rfl rfl _ _ HRUN.out ?_)
      go_loopw [12, 13] (fun jv _ wq => ∃ A B, jv = .int .i64 (A.length : Nat) ∧ Ins (srt (tkL BB F k)) x A B ∧ InO W2.heap.size wq (.slice (some ⟨o5, 0, none⟩) n5 c5) (some o5) (A ++ x :: B) ∧ Below W2.heap.size W2 wq) (fun jv _ _ => (intOf jv).toNat)
      case atStart => exact ⟨srt (tkL BB F k), [], by rw [← HM5.out], ins_start (srt_pw _), HIO.out, HB6.out⟩
      case round =>
        clear HIO HB6 HRUN wm
        obtain ⟨A, B, rfl, hI, hO, hB⟩ := hrel
        have HI := Lib.hid hI
        have HO := Lib.hid hO
        have HB := Lib.hid hB
        have hlen : (A ++ x :: B).length = n5 := by
          have h1 := hO.v.sh
          obtain ⟨a9, n9, c9, e9, H9, _, _⟩ := h1
          injection e9 with q1 q2 q3
          rw [q2, H9.out]
        have HLEN := Lib.hid hlen
        clear hI hO hB hlen
        rcases List.eq_nil_or_concat A with hA | ⟨A', y, hA⟩
        · subst hA
          have HE : Hid (x :: B = srt (tkL BB F (k + 1))) := Lib.hid (by rw [HTK2.out]; exact ins_end2 HI.out (fun y hy => by simp at hy))
          have dz : decide ((0 : Int) < (([] : List Int).length : Nat)) = false := by simp
          go_wp2_with fail
          try ((refine wp_region_quiet_lit (by kernel_rfl) (by kernel_rfl) ?_; (repeat (first | go_big_quiet_step (fail) | (refine BigFrame.wpQuiet_skip (by rfl) ?_; try simp only [Act.put, List.setIfInBounds_toArray, List.set_cons_zero, List.set_cons_succ]))); refine wpQuiet_nil ?_; intro _ hw9; obtain ⟨nq, hw8⟩ := hw9; subst hw8); go_wp2_with fail)
          go_roundw
          case rel => exact ⟨k + 1, some o5, by have := HLT.out; omega, by go_num, by rw [← HE.out]; exact HO.out.step (dN _ _), HB.out.trans ((dN _ _).mono HB.out.size)⟩
          case measure => (have h8 := HLT.out; first | (simp [intOf]; done) | (simp [intOf]; omega))
        rw [List.concat_eq_append] at hA
        subst hA
        obtain ⟨p, hp⟩ : ∃ p, p = A'.length := ⟨_, rfl⟩
        obtain ⟨j, hj⟩ : ∃ j, j = p + 1 := ⟨_, rfl⟩
        have hjl : (A' ++ [y]).length = j := by rw [List.length_append, List.length_singleton, ← hp, hj]
        rw [hjl]
        have hjn : j < n5 := by have := HLEN.out; rw [List.length_append, hjl, List.length_cons] at this; omega
        have hn9 : n5 ≤ 4097 := by have := HN5.out; have := HM12.out; omega
        have hx1 : (A' ++ [y] ++ x :: B)[j]? = some x := by rw [← hjl]; simp
        have hx2 : (A' ++ [y] ++ x :: B)[p]? = some y := by rw [hp]; simp
        obtain ⟨g1', o1', x1, ea1, _, h1, c1⟩ := HO.out.v.at j hjn
        obtain ⟨g2', o2', y1, ea2, _, h2, c2⟩ := HO.out.v.at p (by omega)
        obtain ⟨rfl, rfl⟩ : o5 = g1' ∧ 0 = o1' := by injection ea1 with e; injection e with e1 e2; exact ⟨e1, e2⟩
        obtain ⟨rfl, rfl⟩ : o5 = g2' ∧ 0 = o2' := by injection ea2 with e; injection e with e1 e2; exact ⟨e1, e2⟩
        obtain rfl : x = x1 := Option.some.inj (hx1.symm.trans h1)
        obtain rfl : y = y1 := Option.some.inj (hx2.symm.trans h2)
        simp only [Nat.zero_add] at c1 c2
        replace c1 := c1.1
        replace c2 := c2.1
        have hyo := HO.out.2.1 y (List.mem_of_getElem? h2)
        have HYO := Lib.hid hyo
        have HJ := Lib.hid hj
        have HP := Lib.hid hp
        have HJL := Lib.hid hjl
        have HJN := Lib.hid hjn
        have dz : decide ((0 : Int) < (j : Int)) = true := decide_eq_true (by omega)
        have dz' : decide (0 < j) = true := decide_eq_true (by omega)
        have wj : IntKind.i64.wrap ((j : Int) - 1) = (p : Int) := (IntWalk.i64_in _ (by omega)).trans (by omega)
        have bj : ((j : Int) < (n5 : Int)) = True := eq_true (by omega)
        have bj' : (j < n5) = True := eq_true hjn
        have bp : ((p : Int) < (n5 : Int)) = True := eq_true (by omega)
        have bp' : (p < n5) = True := eq_true (by omega)
        clear ea1 ea2 h1 h2 hx1 hx2 hyo hp hjl hjn hn9 hj
        by_cases hxy : x < y
        rotate_left
        · have d5 : decide (x < y) = false := decide_eq_false hxy
          have HE : Hid (A' ++ [y] ++ x :: B = srt (tkL BB F (k + 1))) := Lib.hid (by rw [HTK2.out]; exact ins_end2 HI.out (fun z hz => by simp at hz; omega))
          clear hxy
          go_wp2_with fail
          try ((refine wp_region_quiet_lit (by kernel_rfl) (by kernel_rfl) ?_; (repeat (first | go_big_quiet_step (fail) | (refine BigFrame.wpQuiet_skip (by rfl) ?_; try simp only [Act.put, List.setIfInBounds_toArray, List.set_cons_zero, List.set_cons_succ]))); refine wpQuiet_nil ?_; intro _ hw9; obtain ⟨nq, hw8⟩ := hw9; subst hw8); go_wp2_with fail)
          go_roundw
          case rel => exact ⟨k + 1, some o5, by have := HLT.out; omega, by go_num, by rw [← HE.out]; exact HO.out.step (dN _ _), HB.out.trans ((dN _ _).mono HB.out.size)⟩
          case measure => (have h8 := HLT.out; first | (simp [intOf]; done) | (simp [intOf]; omega))
        have d5 : decide (x < y) = true := decide_eq_true hxy
        have HI2 := Lib.hid (ins_step HI.out hxy)
        clear hxy
        go_wp2_with fail
        (refine wp_region_quiet_lit (by kernel_rfl) (by kernel_rfl) ?_; (repeat (first | go_big_quiet_step (fail) | (refine BigFrame.wpQuiet_skip (by rfl) ?_; try simp only [Act.put, List.setIfInBounds_toArray, List.set_cons_zero, List.set_cons_succ]))); refine wpQuiet_nil ?_; intro _ hw9; obtain ⟨nq, hw8⟩ := hw9; subst hw8)
        obtain ⟨W6, hW6⟩ : ∃ X, X = wr.drewN nq := ⟨_, rfl⟩
        rw [← hW6]
        have hB6 : Below wr.heap.size wr W6 := by rw [hW6]; exact dN _ _
        have hl6 : o5 < wr.heap.size := HO.out.lt _ rfl
        replace c1 := (hB6.cell (p := ⟨o5, j, none⟩) hl6).trans c1
        replace c2 := (hB6.cell (p := ⟨o5, p, none⟩) hl6).trans c2
        clear hW6
        have hM6 : W2.heap.size ≤ wr.heap.size := HB.out.size
        replace HB := Lib.hid (HB.out.trans (hB6.mono hM6))
        replace HO := Lib.hid (HO.out.step hB6)
        have hbk : ∃ cur, Blk W6 o5 cur 3 := by
          rcases HO.out.1.cases with ⟨e1, _⟩ | ⟨g9, c9, cur, e1, _, h4, _⟩
          · cases e1
          · obtain rfl := Option.some.inj e1
            exact ⟨cur, h4⟩
        obtain ⟨cur, hbk⟩ := hbk
        have hge : W2.heap.size ≤ o5 := HO.out.2.2 _ rfl
        have fz : ∀ j, W6.frozen? ⟨o5, j, none⟩ = false := fun j => free_at hbk j
        have fl : o5 < W6.heap.size := hbk.lt
        obtain ⟨W7, hW7⟩ : ∃ X, X = W6.setCell ⟨o5, j, none⟩ (.int .i64 y) := ⟨_, rfl⟩
        obtain ⟨W8, hW8⟩ : ∃ X, X = W7.setCell ⟨o5, p, none⟩ (.int .i64 x) := ⟨_, rfl⟩
        have hO7 := HO.out.put (by rw [HLEN.out]; exact HJN.out) HYO.out hW7
        have hO8 := hO7.put (by rw [List.length_set, HLEN.out]; have := HJ.out; have := HJN.out; omega) HXO.out hW8
        have hbk7 : Blk W7 o5 (cur.setIfInBounds j (.int .i64 y)) 3 := by rw [hW7]; exact hbk.set j _
        have fz7 : ∀ j, W7.frozen? ⟨o5, j, none⟩ = false := fun j => free_at hbk7 j
        have fl7 : o5 < W7.heap.size := hbk7.lt
        obtain ⟨g7', o7', y7, ea7, _, h7, c7⟩ := hO7.v.at p (by have := HJ.out; have := HJN.out; omega)
        obtain ⟨rfl, rfl⟩ : o5 = g7' ∧ 0 = o7' := by injection ea7 with e; injection e with e1 e2; exact ⟨e1, e2⟩
        simp only [Nat.zero_add] at c7
        replace c7 := c7.1
        clear h7 ea7
        have hfr : Fr [o5] W6 W8 := by rw [hW8, hW7]; exact ((Fr.refl _ _).setCell _ (.inl (by simp)) _).setCell _ (.inl (by simp)) _
        have hset : ((A' ++ [y] ++ x :: B).set j y).set p x = A' ++ x :: (y :: B) := by
          have e1 := HJ.out
          have e2 := HP.out
          subst e1
          subst e2
          simp [List.set_append]
        rw [hset] at hO8
        have HO8 := Lib.hid hO8
        have HB8 := Lib.hid (HB.out.trans (hfr.below (Nat.le_trans hM6 hB6.size) (by simp; exact hge)))
        have HW7 := Lib.hid hW7
        have HW8 := Lib.hid hW8
        clear hB6 hl6 hM6 hbk hge hW7 hW8 hO7 hO8 hbk7 hfr hset HO HB
        go_upto_region 18 with fail
        have hW7 := HW7.out
        rw [← hW7]
        clear hW7 c1 c2 fz fl
        go_wp2_with fail
        have hW8 := HW8.out
        rw [← hW8]
        clear hW8
        go_roundw
        case rel => exact ⟨A', y :: B, by rw [← HP.out], HI2.out, HO8.out, HB8.out⟩
        case measure => (have h8 := HJ.out; first | (simp [intOf]; done) | (simp [intOf]; omega))
    · skip
      obtain ⟨q, rfl⟩ : ∃ q : Nat, R = q := ⟨R.toNat, by omega⟩
      have d3 : decide (0 ≤ (q : Int)) = true := decide_eq_true (by omega)
      have d3' : decide (0 ≤ q) = true := decide_eq_true (by omega)
      have hqt : q < tN := by have := HRL.out; have := H2.out; have := HTN.out; omega
      obtain ⟨gt, otx, z, et, _, hz, d0⟩ := HR.out.ts.v.at q hqt
      subst et
      have hae : AT = z := by rw [HAT.out, if_neg c3, Int.toNat_natCast]; unfold gI; rw [hz]; rfl
      clear c3
      subst hae
      have f5 : wr.cell? ⟨g, 5, none⟩ = some (.slice (some ⟨gt, otx, none⟩) tN tcap) := cell_at HR.out.blk 5
      have bq9 : ((q : Int) < (tN : Int)) = True := eq_true (by omega)
      have bq1 : (q < tN) = True := eq_true hqt
      have ww6 := HWW6.out
      clear hz hqt
      by_cases c4 : Nw - AT < LA
      · have d4 : decide (Nw - AT < LA) = true := decide_eq_true c4
        have HTK2 : Hid (tkL BB F (k + 1) = tkL BB F k) := Lib.hid (by rw [HTK.out, HBX.out, decide_eq_false (by omega)]; simp)
        clear c4
        go_wp2_with fail
        (refine wp_region_quiet_lit (by kernel_rfl) (by kernel_rfl) ?_; (repeat (first | go_big_quiet_step ((go_at_call 38; exact quiet_left (HOV.out _))) | (refine BigFrame.wpQuiet_skip (by rfl) ?_; try simp only [Act.put, List.setIfInBounds_toArray, List.set_cons_zero, List.set_cons_succ]))); refine wpQuiet_nil ?_; intro _ hw9; obtain ⟨nq, hw8⟩ := hw9; subst hw8)
        obtain ⟨W4, hW4⟩ : ∃ X, X = wr.drewN nq := ⟨_, rfl⟩
        rw [← hW4]
        have hB4 : Below wr.heap.size wr W4 := by rw [hW4]; exact dN _ _
        clear hW4 f0 f1 f2 f3 f4 f5 d0
        have hM4 : W2.heap.size ≤ wr.heap.size := HB.out.size
        replace HB := Lib.hid (HB.out.trans (hB4.mono hM4))
        replace HO := Lib.hid (HO.out.step hB4)
        clear hB4 hM4 HR
        go_wp2_with fail
        go_roundw
        case rel => exact ⟨k + 1, oo, by have := HLT.out; omega, by go_num, by rw [HTK2.out]; exact HO.out, HB.out⟩
        case measure => (have h8 := HLT.out; first | (simp [intOf]; done) | (simp [intOf]; omega))
      have d4 : decide (Nw - AT < LA) = false := decide_eq_false c4
      have HTK2 : Hid (tkL BB F (k + 1) = tkL BB F k ++ [x]) := Lib.hid (by rw [HTK.out, HBX.out, decide_eq_true (by omega)]; rfl)
      clear c4
      go_wp2_with fail
      (refine wp_region_quiet_lit (by kernel_rfl) (by kernel_rfl) ?_; (repeat (first | go_big_quiet_step ((go_at_call 38; exact quiet_left (HOV.out _))) | (refine BigFrame.wpQuiet_skip (by rfl) ?_; try simp only [Act.put, List.setIfInBounds_toArray, List.set_cons_zero, List.set_cons_succ]))); refine wpQuiet_nil ?_; intro _ hw9; obtain ⟨nq, hw8⟩ := hw9; subst hw8)
      obtain ⟨W4, hW4⟩ : ∃ X, X = wr.drewN nq := ⟨_, rfl⟩
      rw [← hW4]
      have hB4 : Below wr.heap.size wr W4 := by rw [hW4]; exact dN _ _
      clear hW4 f0 f1 f2 f3 f4 f5 d0
      have hM4 : W2.heap.size ≤ wr.heap.size := HB.out.size
      replace HB := Lib.hid (HB.out.trans (hB4.mono hM4))
      replace HO := Lib.hid (HO.out.step hB4)
      clear hB4 hM4 HR
      have hM4 : W2.heap.size ≤ W4.heap.size := HB.out.size
      have hB5 : Below W4.heap.size W4 (W4.alloc (.cells #[.int .i64 x] 3)) := (Below.refl _ _).alloc (Nat.le_refl _) _
      obtain ⟨v5, o5, W5, hrun, hio, hgr, hnw, hlo⟩ := in_grow (M := W2.heap.size) (ty := 33) (HO.out.step hB5) (blk_new W4 #[.int .i64 x] 3) HXO.out (Nat.le_trans hM4 hB5.size) (by rw [srt_len]; have := tkL_len BB F k; have := HLT.out; omega)
      obtain ⟨m5, hm5⟩ : ∃ m, m = (srt (tkL BB F k)).length := ⟨_, rfl⟩
      obtain ⟨n5, hn5⟩ : ∃ m, m = m5 + 1 := ⟨_, rfl⟩
      have hl5 : (srt (tkL BB F k) ++ [x]).length = n5 := by rw [List.length_append, List.length_singleton, ← hm5, hn5]
      have hsh : ∃ c5, v5 = .slice (some ⟨o5, 0, none⟩) n5 c5 := by
        rcases hio.1.cases with ⟨e1, _⟩ | ⟨g5, c5, cur, e1, e2, _⟩
        · cases e1
        · obtain rfl := Option.some.inj e1
          exact ⟨c5, by rw [e2, hl5]⟩
      obtain ⟨c5, rfl⟩ := hsh
      have HIO := Lib.hid hio
      have HRUN := Lib.hid hrun
      have HB6 := Lib.hid (HB.out.trans ((hB5.mono hM4).trans hlo))
      have hm12 : m5 ≤ 4096 := by rw [hm5, srt_len]; have := tkL_len BB F k; have := HLT.out; omega
      have wm : IntKind.i64.wrap ((n5 : Int) - 1) = (m5 : Int) := (IntWalk.i64_in _ (by omega)).trans (by omega)
      have HM5 := Lib.hid hm5
      have HN5 := Lib.hid hn5
      have HM12 := Lib.hid hm12
      clear hM4 hB5 hrun hio hgr hnw hlo hl5 hm5 hn5 hm12 HB HO c0
      go_wp2_with (at_builtin; refine Lib.wpList_append_run _ rfl (.tmp 68) (.tmp 70) 33 33 rfl _ _ rfl rfl _ _ HRUN.out ?_)
      go_loopw [12, 13] (fun jv _ wq => ∃ A B, jv = .int .i64 (A.length : Nat) ∧ Ins (srt (tkL BB F k)) x A B ∧ InO W2.heap.size wq (.slice (some ⟨o5, 0, none⟩) n5 c5) (some o5) (A ++ x :: B) ∧ Below W2.heap.size W2 wq) (fun jv _ _ => (intOf jv).toNat)
      case atStart => exact ⟨srt (tkL BB F k), [], by rw [← HM5.out], ins_start (srt_pw _), HIO.out, HB6.out⟩
      case round =>
        clear HIO HB6 HRUN wm
        obtain ⟨A, B, rfl, hI, hO, hB⟩ := hrel
        have HI := Lib.hid hI
        have HO := Lib.hid hO
        have HB := Lib.hid hB
        have hlen : (A ++ x :: B).length = n5 := by
          have h1 := hO.v.sh
          obtain ⟨a9, n9, c9, e9, H9, _, _⟩ := h1
          injection e9 with q1 q2 q3
          rw [q2, H9.out]
        have HLEN := Lib.hid hlen
        clear hI hO hB hlen
        rcases List.eq_nil_or_concat A with hA | ⟨A', y, hA⟩
        · subst hA
          have HE : Hid (x :: B = srt (tkL BB F (k + 1))) := Lib.hid (by rw [HTK2.out]; exact ins_end2 HI.out (fun y hy => by simp at hy))
          have dz : decide ((0 : Int) < (([] : List Int).length : Nat)) = false := by simp
          go_wp2_with fail
          try ((refine wp_region_quiet_lit (by kernel_rfl) (by kernel_rfl) ?_; (repeat (first | go_big_quiet_step (fail) | (refine BigFrame.wpQuiet_skip (by rfl) ?_; try simp only [Act.put, List.setIfInBounds_toArray, List.set_cons_zero, List.set_cons_succ]))); refine wpQuiet_nil ?_; intro _ hw9; obtain ⟨nq, hw8⟩ := hw9; subst hw8); go_wp2_with fail)
          go_roundw
          case rel => exact ⟨k + 1, some o5, by have := HLT.out; omega, by go_num, by rw [← HE.out]; exact HO.out.step (dN _ _), HB.out.trans ((dN _ _).mono HB.out.size)⟩
          case measure => (have h8 := HLT.out; first | (simp [intOf]; done) | (simp [intOf]; omega))
        rw [List.concat_eq_append] at hA
        subst hA
        obtain ⟨p, hp⟩ : ∃ p, p = A'.length := ⟨_, rfl⟩
        obtain ⟨j, hj⟩ : ∃ j, j = p + 1 := ⟨_, rfl⟩
        have hjl : (A' ++ [y]).length = j := by rw [List.length_append, List.length_singleton, ← hp, hj]
        rw [hjl]
        have hjn : j < n5 := by have := HLEN.out; rw [List.length_append, hjl, List.length_cons] at this; omega
        have hn9 : n5 ≤ 4097 := by have := HN5.out; have := HM12.out; omega
        have hx1 : (A' ++ [y] ++ x :: B)[j]? = some x := by rw [← hjl]; simp
        have hx2 : (A' ++ [y] ++ x :: B)[p]? = some y := by rw [hp]; simp
        obtain ⟨g1', o1', x1, ea1, _, h1, c1⟩ := HO.out.v.at j hjn
        obtain ⟨g2', o2', y1, ea2, _, h2, c2⟩ := HO.out.v.at p (by omega)
        obtain ⟨rfl, rfl⟩ : o5 = g1' ∧ 0 = o1' := by injection ea1 with e; injection e with e1 e2; exact ⟨e1, e2⟩
        obtain ⟨rfl, rfl⟩ : o5 = g2' ∧ 0 = o2' := by injection ea2 with e; injection e with e1 e2; exact ⟨e1, e2⟩
        obtain rfl : x = x1 := Option.some.inj (hx1.symm.trans h1)
        obtain rfl : y = y1 := Option.some.inj (hx2.symm.trans h2)
        simp only [Nat.zero_add] at c1 c2
        replace c1 := c1.1
        replace c2 := c2.1
        have hyo := HO.out.2.1 y (List.mem_of_getElem? h2)
        have HYO := Lib.hid hyo
        have HJ := Lib.hid hj
        have HP := Lib.hid hp
        have HJL := Lib.hid hjl
        have HJN := Lib.hid hjn
        have dz : decide ((0 : Int) < (j : Int)) = true := decide_eq_true (by omega)
        have dz' : decide (0 < j) = true := decide_eq_true (by omega)
        have wj : IntKind.i64.wrap ((j : Int) - 1) = (p : Int) := (IntWalk.i64_in _ (by omega)).trans (by omega)
        have bj : ((j : Int) < (n5 : Int)) = True := eq_true (by omega)
        have bj' : (j < n5) = True := eq_true hjn
        have bp : ((p : Int) < (n5 : Int)) = True := eq_true (by omega)
        have bp' : (p < n5) = True := eq_true (by omega)
        clear ea1 ea2 h1 h2 hx1 hx2 hyo hp hjl hjn hn9 hj
        by_cases hxy : x < y
        rotate_left
        · have d5 : decide (x < y) = false := decide_eq_false hxy
          have HE : Hid (A' ++ [y] ++ x :: B = srt (tkL BB F (k + 1))) := Lib.hid (by rw [HTK2.out]; exact ins_end2 HI.out (fun z hz => by simp at hz; omega))
          clear hxy
          go_wp2_with fail
          try ((refine wp_region_quiet_lit (by kernel_rfl) (by kernel_rfl) ?_; (repeat (first | go_big_quiet_step (fail) | (refine BigFrame.wpQuiet_skip (by rfl) ?_; try simp only [Act.put, List.setIfInBounds_toArray, List.set_cons_zero, List.set_cons_succ]))); refine wpQuiet_nil ?_; intro _ hw9; obtain ⟨nq, hw8⟩ := hw9; subst hw8); go_wp2_with fail)
          go_roundw
          case rel => exact ⟨k + 1, some o5, by have := HLT.out; omega, by go_num, by rw [← HE.out]; exact HO.out.step (dN _ _), HB.out.trans ((dN _ _).mono HB.out.size)⟩
          case measure => (have h8 := HLT.out; first | (simp [intOf]; done) | (simp [intOf]; omega))
        have d5 : decide (x < y) = true := decide_eq_true hxy
        have HI2 := Lib.hid (ins_step HI.out hxy)
        clear hxy
        go_wp2_with fail
        (refine wp_region_quiet_lit (by kernel_rfl) (by kernel_rfl) ?_; (repeat (first | go_big_quiet_step (fail) | (refine BigFrame.wpQuiet_skip (by rfl) ?_; try simp only [Act.put, List.setIfInBounds_toArray, List.set_cons_zero, List.set_cons_succ]))); refine wpQuiet_nil ?_; intro _ hw9; obtain ⟨nq, hw8⟩ := hw9; subst hw8)
        obtain ⟨W6, hW6⟩ : ∃ X, X = wr.drewN nq := ⟨_, rfl⟩
        rw [← hW6]
        have hB6 : Below wr.heap.size wr W6 := by rw [hW6]; exact dN _ _
        have hl6 : o5 < wr.heap.size := HO.out.lt _ rfl
        replace c1 := (hB6.cell (p := ⟨o5, j, none⟩) hl6).trans c1
        replace c2 := (hB6.cell (p := ⟨o5, p, none⟩) hl6).trans c2
        clear hW6
        have hM6 : W2.heap.size ≤ wr.heap.size := HB.out.size
        replace HB := Lib.hid (HB.out.trans (hB6.mono hM6))
        replace HO := Lib.hid (HO.out.step hB6)
        have hbk : ∃ cur, Blk W6 o5 cur 3 := by
          rcases HO.out.1.cases with ⟨e1, _⟩ | ⟨g9, c9, cur, e1, _, h4, _⟩
          · cases e1
          · obtain rfl := Option.some.inj e1
            exact ⟨cur, h4⟩
        obtain ⟨cur, hbk⟩ := hbk
        have hge : W2.heap.size ≤ o5 := HO.out.2.2 _ rfl
        have fz : ∀ j, W6.frozen? ⟨o5, j, none⟩ = false := fun j => free_at hbk j
        have fl : o5 < W6.heap.size := hbk.lt
        obtain ⟨W7, hW7⟩ : ∃ X, X = W6.setCell ⟨o5, j, none⟩ (.int .i64 y) := ⟨_, rfl⟩
        obtain ⟨W8, hW8⟩ : ∃ X, X = W7.setCell ⟨o5, p, none⟩ (.int .i64 x) := ⟨_, rfl⟩
        have hO7 := HO.out.put (by rw [HLEN.out]; exact HJN.out) HYO.out hW7
        have hO8 := hO7.put (by rw [List.length_set, HLEN.out]; have := HJ.out; have := HJN.out; omega) HXO.out hW8
        have hbk7 : Blk W7 o5 (cur.setIfInBounds j (.int .i64 y)) 3 := by rw [hW7]; exact hbk.set j _
        have fz7 : ∀ j, W7.frozen? ⟨o5, j, none⟩ = false := fun j => free_at hbk7 j
        have fl7 : o5 < W7.heap.size := hbk7.lt
        obtain ⟨g7', o7', y7, ea7, _, h7, c7⟩ := hO7.v.at p (by have := HJ.out; have := HJN.out; omega)
        obtain ⟨rfl, rfl⟩ : o5 = g7' ∧ 0 = o7' := by injection ea7 with e; injection e with e1 e2; exact ⟨e1, e2⟩
        simp only [Nat.zero_add] at c7
        replace c7 := c7.1
        clear h7 ea7
        have hfr : Fr [o5] W6 W8 := by rw [hW8, hW7]; exact ((Fr.refl _ _).setCell _ (.inl (by simp)) _).setCell _ (.inl (by simp)) _
        have hset : ((A' ++ [y] ++ x :: B).set j y).set p x = A' ++ x :: (y :: B) := by
          have e1 := HJ.out
          have e2 := HP.out
          subst e1
          subst e2
          simp [List.set_append]
        rw [hset] at hO8
        have HO8 := Lib.hid hO8
        have HB8 := Lib.hid (HB.out.trans (hfr.below (Nat.le_trans hM6 hB6.size) (by simp; exact hge)))
        have HW7 := Lib.hid hW7
        have HW8 := Lib.hid hW8
        clear hB6 hl6 hM6 hbk hge hW7 hW8 hO7 hO8 hbk7 hfr hset HO HB
        go_upto_region 18 with fail
        have hW7 := HW7.out
        rw [← hW7]
        clear hW7 c1 c2 fz fl
        go_wp2_with fail
        have hW8 := HW8.out
        rw [← hW8]
        clear hW8
        go_roundw
        case rel => exact ⟨A', y :: B, by rw [← HP.out], HI2.out, HO8.out, HB8.out⟩
        case measure => (have h8 := HJ.out; first | (simp [intOf]; done) | (simp [intOf]; omega))
end Go.Proofs.Ythmjlomlceljkaa
