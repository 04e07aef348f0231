/-
  An agent's reports.
-/
import Derived.Test.YtlgjdiadohhleaaAga
namespace Go.Proofs.Ytlgjdiadohhleaa
open Go.RowKit
set_option linter.unusedSimpArgs false
set_option linter.unusedVariables false

theorem agCmd : (Try.prog.info? 31).map (fun i => (i.zero, i.size, i.bytes)) = some (some (.agg #[.int .i8 0, .int .i64 0, .int .i64 0, .int .i64 0, .int .i64 0, .int .i64 0, .int .i64 0, .int .i64 0, .int .i64 0, .int .i64 0, .int .i64 0, .bool false, .slice none 0 0]), 13, 120) := by kernel_rfl
theorem news_cmd (W : World) (xs : Array Value) (e : TypeId) (j : Nat) (u : Value) (h : xs.toList[j]? = some u) : (W.alloc (.cells xs e)).cell? ((⟨W.heap.size, 0, none⟩ : Addr).add j) = some u := by
  have h1 : (W.alloc (.cells xs e)).heap[W.heap.size]? = some (.cells xs e (0, 0)) := heap_alloc_new W _
  have h2 := cell_at h1 (0 + j)
  rw [Nat.zero_add, ← Array.getElem?_toList, h] at h2
  have h3 : (⟨W.heap.size, 0, none⟩ : Addr).add j = ⟨W.heap.size, 0 + j, none⟩ := by unfold Addr.add; split <;> simp_all
  rw [h3, Nat.zero_add]
  exact h2
/-- none, or one command, in memory of the call's own -/
def CmdsP (w w' : World) (c : Option (Array Value)) (e : Ending) : Prop := match c with
  | none => e = .returned (.slice none 0 0)
  | some cs => ∃ r k, e = .returned (.slice (some ⟨r, 0, none⟩) 1 k) ∧ 1 ≤ k ∧ k ≤ maxLen ∧ w.heap.size ≤ r ∧ Row w' (.slice (some ⟨r, 0, none⟩) 1 k) (some r) 31 13 1 cs.toList
def Hd.rep (H : Hd) : Hd := match H with
  | .gone a c => .gone a c
  | .one b c x => if 0 < x.le then .one b c { x with re := x.sp } else .gone (some ⟨b, 0, none⟩) c
def Hd.cmd (H : Hd) (s : Ag) : Option (Array Value) := match H with
  | .gone _ _ => none
  | .one _ _ x => if x.re < x.sp then some (cmdL 5 0 0 s.sh s.ep x.id 0 x.sp false) else none
theorem stay_rep (w : World) : StayC 56 #[] (fun x => decide (0 < x.le)) w := fun x W _ => reports1_any x W
theorem Ag.sh_tick (s : Ag) (t : Int) : (s.tick t).sh = s.sh := rfl
theorem keep_pos {b c : Nat} {x : Lz} (d : Lz → Bool) (h : d x = true) : Hd.keep (.one b c x) d = .one b c x := by simp [Hd.keep, h]
theorem keep_neg {b c : Nat} {x : Lz} (d : Lz → Bool) (h : d x = false) : Hd.keep (.one b c x) d = .gone (some ⟨b, 0, none⟩) c := by simp [Hd.keep, h]

set_option maxRecDepth 100000 in
set_option maxHeartbeats 8000000 in
theorem reports_any (g : Nat) (s : Ag) (H : Hd) (t : Int) (w : World) (h : AgAt w g s H) (hok : H.ok) :
    Calls Try.prog 20 #[.pointer (some ⟨g, 0, none⟩), .int .i64 t] w fun e w' => CmdsP w w' ((H.tick s t).cmd s) e ∧ AgAt w' g (s.tick t) (H.tick s t).rep ∧ Fr (g :: H.bl) w w' := by
  have AT := Lib.hid (at_any g s H t w h)
  have hok2 := hok.tick s t
  have HBL := Lib.hid (keep_bl H fun x => decide (max s.now t < x.un))
  change Hid (∀ x ∈ (H.tick s t).bl, x ∈ H.bl) at HBL
  obtain ⟨H2, hH2⟩ : ∃ H2, H2 = H.tick s t := ⟨_, rfl⟩
  rw [← hH2] at AT hok2 HBL ⊢
  have hlt : g < w.heap.size ∧ ∀ y ∈ H.bl, y < w.heap.size := ⟨h.blk.lt, fun y hy => (h.held.lt y hy).1⟩
  have HLT := Lib.hid hlt
  clear h hok hH2 hlt
  cases H2 with
  | gone a c =>
    go_enter Try.func20, Try.ntmps20
    go_wp2_with fail
    go_at_call 49
    refine Calls.mono AT.out ?_
    rintro e W1 ⟨rfl, h1, hf1⟩
    have hm : c ≤ maxLen := h1.held
    unfold maxLen at hm
    have c11 : W1.cell? ⟨g, 11, none⟩ = some (.slice a 0 c) := cell_at h1.blk 11
    have KA := Lib.hid (keep_any 56 #[] (fun x => decide (0 < x.le)) g (s.tick t) (.gone a c) W1 h1 ent_reports1 (stay_rep W1))
    have HF1 := Lib.hid hf1
    clear h1 hf1 AT
    go_wp2_with fail
    refine wp_loop_rounds 1 ?_
    rw [rounds_succ]
    go_wp2_with fail
    go_at_call 55
    refine Calls.mono KA.out ?_
    rintro e W3 ⟨rfl, h3, hf3⟩
    have H3 := Lib.hid h3
    have HF3 := Lib.hid (HF1.out.trans hf3 (fun x hx => by simp [Hd.bl] at hx; exact .inl (by simp [hx])))
    clear h3 hf3 KA
    go_wp2_with fail
    go_ret
    exact ⟨rfl, H3.out, HF3.out⟩
  | one b c x =>
    obtain ⟨k1, k2, k3, k4, k5⟩ := hok2
    have HBB : Hid (b ∈ H.bl) := Lib.hid (HBL.out b (by simp [Hd.bl]))
    obtain ⟨i0, hi, hz0, hz1, hz2⟩ := info_parts agCmd
    have HI := Lib.hid hi
    have HZ0 := Lib.hid hz0
    have HZ1 := Lib.hid hz1
    have HZ2 := Lib.hid hz2
    clear hi hz0 hz1 hz2
    obtain ⟨Q, hQ⟩ : ∃ Q : Ending → World → Prop, Q = fun e w' => CmdsP w w' (Hd.cmd (.one b c x) s) e ∧ AgAt w' g (s.tick t) (Hd.rep (.one b c x)) ∧ Fr (g :: H.bl) w w' := ⟨_, rfl⟩
    rw [← hQ]
    have HQ := Lib.hid hQ
    clear hQ
    go_enter Try.func20, Try.ntmps20
    go_wp2_with fail
    go_at_call 49
    refine Calls.mono AT.out ?_
    rintro e W1 ⟨rfl, h1, hf1⟩
    obtain ⟨h2, h3⟩ := h1.held
    have hm := h2.max
    unfold maxLen at hm
    have c11 : W1.cell? ⟨g, 11, none⟩ = some (.slice (some ⟨b, 0, none⟩) 1 c) := cell_at h1.blk 11
    have d0 : W1.cell? ⟨b, 0, none⟩ = some (.int .i64 x.id) := h2.cell 0 (by omega)
    have d1 : W1.cell? ⟨b, 1, none⟩ = some (.int .i64 x.te) := h2.cell 1 (by omega)
    have d2 : W1.cell? ⟨b, 2, none⟩ = some (.int .i64 x.le) := h2.cell 2 (by omega)
    have d3 : W1.cell? ⟨b, 3, none⟩ = some (.int .i64 x.un) := h2.cell 3 (by omega)
    have d4 : W1.cell? ⟨b, 4, none⟩ = some (.int .i64 x.sp) := h2.cell 4 (by omega)
    have d5 : W1.cell? ⟨b, 5, none⟩ = some (.int .i64 x.re) := h2.cell 5 (by omega)
    have HA1 := Lib.hid h1
    have HF1 := Lib.hid hf1
    have HL1 := Lib.hid h2
    have HBG := Lib.hid h3
    clear h1 hf1 AT h2 h3 k3
    go_wp2_with fail
    refine wp_loop_rounds 2 ?_
    rw [rounds_succ]
    go_upto_region 9 with fail
    go_quiet (fail)
    generalize hWq : W1.drewN _ = Wq
    have hq : Fr [] W1 Wq := by rw [← hWq]; exact (Fr.refl [] W1).drewN _
    have HAq : Hid (AgAt Wq g (s.tick t) (.one b c x)) := Lib.hid (HA1.out.fr hq (by simp) (by simp))
    have HLq : Hid (OneL Wq b c x) := Lib.hid HAq.out.held.1
    have HFq : Hid (Fr (g :: H.bl) w Wq) := Lib.hid (HF1.out.trans hq (fun x hx => by simp at hx))
    have D0 : Wq.cell? ⟨b, 0, none⟩ = some (.int .i64 x.id) := HLq.out.cell 0 (by omega)
    have D1 : Wq.cell? ⟨b, 1, none⟩ = some (.int .i64 x.te) := HLq.out.cell 1 (by omega)
    have D2 : Wq.cell? ⟨b, 2, none⟩ = some (.int .i64 x.le) := HLq.out.cell 2 (by omega)
    have D3 : Wq.cell? ⟨b, 3, none⟩ = some (.int .i64 x.un) := HLq.out.cell 3 (by omega)
    have D4 : Wq.cell? ⟨b, 4, none⟩ = some (.int .i64 x.sp) := HLq.out.cell 4 (by omega)
    have D5 : Wq.cell? ⟨b, 5, none⟩ = some (.int .i64 x.re) := HLq.out.cell 5 (by omega)
    clear hWq hq c11 d0 d1 d2 d3 d4 d5 HA1 HF1 HL1
    by_cases hsr : x.re < x.sp
    · have RP := report_any g (s.tick t) (Hd.val (.one b c x)) x false Wq HAq.out.blk
      simp only [cmdL] at RP
      have HRP := Lib.hid RP
      clear RP
      have HSR := Lib.hid hsr
      go_wp2_with fail
      go_at_call 54
      refine Calls.mono HRP.out ?_
      rintro e W3 ⟨rfl, hB3⟩
      have HA3 := Lib.hid (HAq.out.below hB3)
      have HF3 := Lib.hid (HFq.out.trans (Fr.of_below hB3) (fun x hx => by simp at hx))
      clear hB3 HRP HAq HFq HLq D0 D1 D2 D3 D4 D5
      go_wp2_with (at_builtin; refine wpList_append_row _ rfl (.tmp 37) (.tmp 43) 40 rfl 31 i0 _ 13 120 Try.underlying40 HI.out HZ0.out HZ1.out HZ2.out rfl (by decide) _ none 0 [] rfl (Row.nil _ _ _) ⟨W3.heap.size, 0, none⟩ 1 1 [.int .i8 5, .int .i64 0, .int .i64 0, .int .i64 0, .int .i64 0, .int .i64 0, .int .i64 s.sh, .int .i64 s.ep, .int .i64 x.id, .int .i64 0, .int .i64 x.sp, .bool false, .slice none 0 0] rfl (by decide) rfl ?c1 ?c2 ?c3 ?c4 ?_)
      case c1 => intro j u hu; exact news_cmd W3 #[.int .i8 5, .int .i64 0, .int .i64 0, .int .i64 0, .int .i64 0, .int .i64 0, .int .i64 s.sh, .int .i64 s.ep, .int .i64 x.id, .int .i64 0, .int .i64 x.sp, .bool false, .slice none 0 0] _ j u hu
      case c2 => intro u hu; exact (List.all_eq_true (p := fun u : Value => u.oneCell')).1 rfl u hu
      case c3 => unfold maxLen; omega
      case c4 => omega
      intro v' ob' W4 hrow4 hg4 hob4
      have hb4 : ob' = W3.heap.size + 1 := hob4
      have hA4 : AgAt W4 g (s.tick t) (.one b c x) := by
        have q1 := HA3.out.blk.lt
        have q2 := HA3.out.held.1.lt
        refine HA3.out.fr (l := []) ?_ (by simp) (by simp)
        exact ((Fr.refl [] W3).alloc _).grown hg4 (by intro k hk; cases hk)
      have hf4 : Fr (g :: H.bl) w W4 := (HF3.out.alloc _).grown hg4 (by intro k hk; cases hk)
      obtain ⟨a4, c4, rfl, k6, k7, rfl⟩ := hrow4.shape
      have HROW := Lib.hid hrow4
      have HA4 := Lib.hid hA4
      have HF4 := Lib.hid hf4
      have HZ4 : Hid (w.heap.size < ob') := Lib.hid (by have := HF3.out.size; omega)
      have E4 : W4.cell? ⟨b, 4, none⟩ = some (.int .i64 x.sp) := hA4.held.1.cell 4 (by omega)
      have E5 : W4.cell? ⟨b, 5, none⟩ = some (.int .i64 x.re) := hA4.held.1.cell 5 (by omega)
      have y5 := hA4.held.1.free 5
      have HK7 := Lib.hid (And.intro k6 k7)
      clear hrow4 hg4 hob4 hA4 hf4 hb4 HA3 HF3 k6 k7 HI HZ0 HZ1 HZ2
      go_wp2_with fail
      rw [rounds_succ]
      go_wp2_with fail
      obtain ⟨W5, hW5⟩ : ∃ W5, W5 = W4.setCell ⟨b, 5, none⟩ (.int .i64 x.sp) := ⟨_, rfl⟩
      rw [← hW5]
      have hf5 : Fr [b] W4 W5 := by rw [hW5]; exact (Fr.refl [b] W4).setCell ⟨b, 5, none⟩ (.inl (by simp)) _
      have hA5 : AgAt W5 g (s.tick t) (.one b c { x with re := x.sp }) := HA4.out.lease hf5 (by rw [hW5]; exact HA4.out.held.1.set_re x.sp)
      have HF5 := Lib.hid (HF4.out.trans hf5 (fun y hy => by simp at hy; subst hy; exact .inl (by simp [HBB.out])))
      have HR5 := Lib.hid (HROW.out.congr (w' := W5) (fun g' e => by
        obtain rfl := Option.some.inj e
        rw [hW5]
        exact heap_setCell_ne _ _ _ _ (by have := HLT.out.2 b HBB.out; have := HZ4.out; simp only; omega)))
      have KA := Lib.hid (keep_any 56 #[] (fun x => decide (0 < x.le)) g (s.tick t) (.one b c { x with re := x.sp }) W5 hA5 ent_reports1 (stay_rep W5))
      clear hW5 hf5 hA5 HA4 HF4 HROW E4 E5 y5
      go_at_call 55
      refine Calls.mono KA.out ?_
      rintro e W6 ⟨rfl, h6, hf6⟩
      have HR6 := Lib.hid (HR5.out.congr (w' := W6) (fun g' e => by
        obtain rfl := Option.some.inj e
        refine hf6.block _ HR5.out.lt ?_
        have := HLT.out.1
        have := HLT.out.2 b HBB.out
        have := HZ4.out
        simp [Hd.bl]
        omega))
      have H6 := Lib.hid h6
      have HF6 := Lib.hid (HF5.out.trans hf6 (fun y hy => by simp [Hd.bl] at hy; rcases hy with e | e; exact .inl (by simp [e]); exact .inl (by simp [e, HBB.out])))
      clear h6 hf6 KA HR5 HF5
      go_wp2_with fail
      rw [HQ.out]
      refine ⟨?_, ?_, HF6.out⟩
      · rw [show Hd.cmd (.one b c x) s = some (cmdL 5 0 0 s.sh s.ep x.id 0 x.sp false) from if_pos HSR.out]
        exact ⟨ob', c4, rfl, HK7.out.1, HK7.out.2, by have := HZ4.out; omega, HR6.out⟩
      · have h6 := H6.out
        by_cases hle : 0 < x.le
        · rw [keep_pos _ (decide_eq_true hle)] at h6
          rw [show Hd.rep (.one b c x) = .one b c { x with re := x.sp } from if_pos hle]
          exact h6
        · rw [keep_neg _ (decide_eq_false hle)] at h6
          rw [show Hd.rep (.one b c x) = .gone (some ⟨b, 0, none⟩) c from if_neg hle]
          exact h6
    · have hre : x.re = x.sp := by omega
      have HSR := Lib.hid hsr
      have HRE := Lib.hid hre
      have KA := Lib.hid (keep_any 56 #[] (fun x => decide (0 < x.le)) g (s.tick t) (.one b c x) Wq HAq.out ent_reports1 (stay_rep Wq))
      clear hre HAq D0 D1 D2 D3 D4 D5
      go_wp2_with fail
      rw [rounds_succ]
      go_wp2_with fail
      go_at_call 55
      refine Calls.mono KA.out ?_
      rintro e W6 ⟨rfl, h6, hf6⟩
      have H6 := Lib.hid h6
      have HF6 := Lib.hid (HFq.out.trans hf6 (fun y hy => by simp [Hd.bl] at hy; rcases hy with e | e; exact .inl (by simp [e]); exact .inl (by simp [e, HBB.out])))
      clear h6 hf6 KA
      go_wp2_with fail
      rw [HQ.out]
      refine ⟨?_, ?_, HF6.out⟩
      · rw [show Hd.cmd (.one b c x) s = none from if_neg (by have := HSR.out; omega)]
        exact rfl
      · have h6 := H6.out
        have hxx : ({ x with re := x.sp } : Lz) = x := by
          have h9 : ∀ y : Int, x.re = y → ({ x with re := y } : Lz) = x := by
            rintro y rfl
            rfl
          exact h9 _ HRE.out
        by_cases hle : 0 < x.le
        · rw [keep_pos _ (decide_eq_true hle)] at h6
          rw [show Hd.rep (.one b c x) = .one b c { x with re := x.sp } from if_pos hle, hxx]
          exact h6
        · rw [keep_neg _ (decide_eq_false hle)] at h6
          rw [show Hd.rep (.one b c x) = .gone (some ⟨b, 0, none⟩) c from if_neg hle]
          exact h6
end Go.Proofs.Ytlgjdiadohhleaa
