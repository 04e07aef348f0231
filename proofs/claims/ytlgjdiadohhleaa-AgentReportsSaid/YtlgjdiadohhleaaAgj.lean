/-
  An agent closes a tenant's leases.
-/
import Derived.Test.YtlgjdiadohhleaaAgg
namespace Go.Proofs.Ytlgjdiadohhleaa
open Go.RowKit
set_option linter.unusedSimpArgs false
set_option linter.unusedVariables false

def Hd.clo (H : Hd) : Hd := match H with
  | .gone a c => .gone a c
  | .one b c _ => .gone (some ⟨b, 0, none⟩) c
def Hd.ccmd (H : Hd) (s : Ag) : Option (Array Value) := match H with
  | .gone _ _ => none
  | .one _ _ x => some (cmdL 5 0 0 s.sh s.ep x.id 0 x.sp true)
theorem stay_clo (p : Nat) (te : Int) (w : World) (hp : Blk w p #[.int .i64 te] 3) : StayC 57 #[.pointer (some ⟨p, 0, none⟩)] (fun x => !(x.te == te)) w := fun x W hB => close1_any x p te W (hp.step hB)

set_option maxRecDepth 100000 in
set_option maxHeartbeats 8000000 in
theorem close_any (g : Nat) (s : Ag) (H : Hd) (te t : Int) (w : World) (h : AgAt w g s H) (hof : H.of_ te) (hok : H.ok) :
    Calls Try.prog 21 #[.pointer (some ⟨g, 0, none⟩), .int .i64 te, .int .i64 t] w fun e w' => CmdsP w w' ((H.tick s t).ccmd s) e ∧ AgAt w' g (s.tick t) (H.tick s t).clo ∧ Fr (g :: H.bl) w w' := by
  obtain ⟨N, hN⟩ : ∃ N, N = w.heap.size := ⟨_, rfl⟩
  obtain ⟨W0, hW0⟩ : ∃ W0, W0 = w.alloc (.cells #[.int .i64 te] 3) := ⟨_, rfl⟩
  have hB0 : Below w.heap.size w W0 := by rw [hW0]; exact (Below.refl _ _).alloc (Nat.le_refl _) _
  have b0 : Blk W0 N #[.int .i64 te] 3 := by rw [hW0, hN]; exact blk_new _ _ _
  have AT := Lib.hid (at_any g s H t W0 (h.below hB0))
  have hof2 : (H.tick s t).of_ te := by
    cases H with
    | gone a c => trivial
    | one b c x =>
      unfold Hd.tick
      by_cases hh : max s.now t < x.un
      · rw [keep_pos _ (decide_eq_true hh)]; exact hof
      · rw [keep_neg _ (decide_eq_false hh)]; trivial
  have hok2 := hok.tick s t
  have HBL := Lib.hid (keep_bl H fun x => decide (max s.now t < x.un))
  change Hid (∀ x ∈ (H.tick s t).bl, x ∈ H.bl) at HBL
  obtain ⟨H2, hH2⟩ : ∃ H2, H2 = H.tick s t := ⟨_, rfl⟩
  rw [← hH2] at AT HBL hof2 hok2 ⊢
  have hlt : g < w.heap.size ∧ ∀ y ∈ H.bl, y < w.heap.size := ⟨h.blk.lt, fun y hy => (h.held.lt y hy).1⟩
  have HLT := Lib.hid hlt
  have hnb : N ∉ g :: H.bl := by
    intro hm
    simp only [List.mem_cons] at hm
    rcases hm with e | e
    · have := hlt.1; omega
    · have := hlt.2 _ e; omega
  have HNB := Lib.hid hnb
  have HF0 : Hid (Fr (g :: H.bl) w W0) := Lib.hid ((Fr.of_below hB0).mono (by simp))
  have HK0 := Lib.hid b0
  have HN := Lib.hid hN
  obtain ⟨Q, hQ⟩ : ∃ Q : Ending → World → Prop, Q = fun e w' => CmdsP w w' (H2.ccmd s) e ∧ AgAt w' g (s.tick t) H2.clo ∧ Fr (g :: H.bl) w w' := ⟨_, rfl⟩
  rw [← hQ]
  have HQ := Lib.hid hQ
  clear h hok hH2 hlt hQ hnb b0 hB0 hof
  go_enter Try.func21, Try.ntmps21
  go_upto_region 3 with fail
  rw [← hN, ← hW0]
  clear hN hW0
  go_wp2_with fail
  go_at_call 49
  refine Calls.mono AT.out ?_
  rintro e W1 ⟨rfl, h1, hf1⟩
  have HK1 : Hid (Blk W1 N #[.int .i64 te] 3) := Lib.hid ((hf1.block N HK0.out.lt HNB.out).trans HK0.out)
  have HF1 := Lib.hid (HF0.out.trans hf1 (fun x hx => .inl hx))
  have HA1 := Lib.hid h1
  have p0 : W1.cell? ⟨N, 0, none⟩ = some (.int .i64 te) := cell_at HK1.out 0
  have pl : N < W1.heap.size := HK1.out.lt
  clear hf1 AT HF0 HK0
  cases H2 with
  | gone a c =>
    have hm : c ≤ maxLen := h1.held
    unfold maxLen at hm
    have c11 : W1.cell? ⟨g, 11, none⟩ = some (.slice a 0 c) := cell_at h1.blk 11
    have KA := Lib.hid (keep_any 57 #[.pointer (some ⟨N, 0, none⟩)] (fun x => !(x.te == te)) g (s.tick t) (.gone a c) W1 h1 ent_close1 (stay_clo N te W1 HK1.out))
    clear h1
    go_wp2_with fail
    refine wp_loop_rounds 1 ?_
    rw [rounds_succ]
    go_wp2_with fail
    go_at_call 55
    refine Calls.mono KA.out ?_
    rintro e W3 ⟨rfl, h3, hf3⟩
    have H3 := Lib.hid h3
    have HF3 := Lib.hid (HF1.out.trans hf3 (fun x hx => by simp [Hd.bl] at hx; exact .inl (by simp [hx])))
    clear h3 hf3 KA
    go_wp2_with fail
    rw [HQ.out]
    exact ⟨rfl, H3.out, HF3.out⟩
  | one b c x =>
    have HBB : Hid (b ∈ H.bl) := Lib.hid (HBL.out b (by simp [Hd.bl]))
    obtain ⟨i0, hi, hz0, hz1, hz2⟩ := info_parts agCmd
    have HI := Lib.hid hi
    have HZ0 := Lib.hid hz0
    have HZ1 := Lib.hid hz1
    have HZ2 := Lib.hid hz2
    clear hi hz0 hz1 hz2
    obtain ⟨h2, h3⟩ := h1.held
    have hm := h2.max
    unfold maxLen at hm
    have hxt : x.te = te := hof2
    have hxb : (x.te == te) = true := by simp [hxt]
    have c11 : W1.cell? ⟨g, 11, none⟩ = some (.slice (some ⟨b, 0, none⟩) 1 c) := cell_at h1.blk 11
    have d0 : W1.cell? ⟨b, 0, none⟩ = some (.int .i64 x.id) := h2.cell 0 (by omega)
    have d1 : W1.cell? ⟨b, 1, none⟩ = some (.int .i64 x.te) := h2.cell 1 (by omega)
    have d2 : W1.cell? ⟨b, 2, none⟩ = some (.int .i64 x.le) := h2.cell 2 (by omega)
    have d3 : W1.cell? ⟨b, 3, none⟩ = some (.int .i64 x.un) := h2.cell 3 (by omega)
    have d4 : W1.cell? ⟨b, 4, none⟩ = some (.int .i64 x.sp) := h2.cell 4 (by omega)
    have d5 : W1.cell? ⟨b, 5, none⟩ = some (.int .i64 x.re) := h2.cell 5 (by omega)
    have HXT := Lib.hid hxt
    clear h1 h2 h3 hof2 hxt
    go_wp2_with fail
    refine wp_loop_rounds 2 ?_
    rw [rounds_succ]
    go_upto_region 9 with fail
    obtain ⟨P, hP⟩ : ∃ P, P = W1.heap.size := ⟨_, rfl⟩
    obtain ⟨W2, hW2⟩ : ∃ W2, W2 = W1.alloc (.cells #[.int .i64 x.id, .int .i64 x.te, .int .i64 x.le, .int .i64 x.un, .int .i64 x.sp, .int .i64 x.re] 111) := ⟨_, rfl⟩
    have hB2 : Below W1.heap.size W1 W2 := by rw [hW2]; exact (Below.refl _ _).alloc (Nat.le_refl _) _
    have hk2 : Blk W2 P #[.int .i64 x.id, .int .i64 x.te, .int .i64 x.le, .int .i64 x.un, .int .i64 x.sp, .int .i64 x.re] 111 := by rw [hW2, hP]; exact blk_new _ _ _
    have HA2 := Lib.hid (HA1.out.below hB2)
    have HK2 := Lib.hid (HK1.out.step hB2)
    have HF2 := Lib.hid (HF1.out.trans (Fr.of_below hB2) (fun y hy => by simp at hy))
    rw [← hP, ← hW2]
    have l0 : W2.cell? ⟨P, 0, none⟩ = some (.int .i64 x.id) := cell_at hk2 0
    have l1 : W2.cell? ⟨P, 1, none⟩ = some (.int .i64 x.te) := cell_at hk2 1
    have l2 : W2.cell? ⟨P, 2, none⟩ = some (.int .i64 x.le) := cell_at hk2 2
    have l3 : W2.cell? ⟨P, 3, none⟩ = some (.int .i64 x.un) := cell_at hk2 3
    have l4 : W2.cell? ⟨P, 4, none⟩ = some (.int .i64 x.sp) := cell_at hk2 4
    have l5 : W2.cell? ⟨P, 5, none⟩ = some (.int .i64 x.re) := cell_at hk2 5
    have RP := report_any g (s.tick t) (Hd.val (.one b c x)) x true W2 HA2.out.blk
    simp only [cmdL] at RP
    have HRP := Lib.hid RP
    clear RP hP hW2 hB2 hk2 c11 d0 d1 d2 d3 d4 d5 p0 pl HA1 HK1 HF1
    go_wp2_with fail
    go_at_call 54
    refine Calls.mono HRP.out ?_
    rintro e W3 ⟨rfl, hB3⟩
    have HA3 := Lib.hid (HA2.out.below hB3)
    have HK3 := Lib.hid (HK2.out.step hB3)
    have HF3 := Lib.hid (HF2.out.trans (Fr.of_below hB3) (fun x hx => by simp at hx))
    clear hB3 HRP HA2 HF2 HK2 l0 l1 l2 l3 l4 l5
    go_wp2_with (at_builtin; refine wpList_append_row _ rfl (.tmp 30) (.tmp 34) 40 rfl 31 i0 _ 13 120 Try.underlying40 HI.out HZ0.out HZ1.out HZ2.out rfl (by decide) _ none 0 [] rfl (Row.nil _ _ _) ⟨W3.heap.size, 0, none⟩ 1 1 [.int .i8 5, .int .i64 0, .int .i64 0, .int .i64 0, .int .i64 0, .int .i64 0, .int .i64 s.sh, .int .i64 s.ep, .int .i64 x.id, .int .i64 0, .int .i64 x.sp, .bool true, .slice none 0 0] rfl (by decide) rfl ?c1 ?c2 ?c3 ?c4 ?_)
    case c1 => intro j u hu; exact news_cmd W3 #[.int .i8 5, .int .i64 0, .int .i64 0, .int .i64 0, .int .i64 0, .int .i64 0, .int .i64 s.sh, .int .i64 s.ep, .int .i64 x.id, .int .i64 0, .int .i64 x.sp, .bool true, .slice none 0 0] _ j u hu
    case c2 => intro u hu; exact (List.all_eq_true (p := fun u : Value => u.oneCell')).1 rfl u hu
    case c3 => unfold maxLen; omega
    case c4 => omega
    intro v' ob' W4 hrow4 hg4 hob4
    have hb4 : ob' = W3.heap.size + 1 := hob4
    have hfr4 : Fr [] W3 W4 := ((Fr.refl [] W3).alloc _).grown hg4 (by intro k hk; cases hk)
    have hA4 : AgAt W4 g (s.tick t) (.one b c x) := HA3.out.fr hfr4 (by simp) (by simp)
    have HK4 : Hid (Blk W4 N #[.int .i64 te] 3) := Lib.hid ((hfr4.block N HK3.out.lt (by simp)).trans HK3.out)
    have hf4 : Fr (g :: H.bl) w W4 := (HF3.out.alloc _).grown hg4 (by intro k hk; cases hk)
    obtain ⟨a4, c4, rfl, k6, k7, rfl⟩ := hrow4.shape
    have HROW := Lib.hid hrow4
    have HF4 := Lib.hid hf4
    have HZ4 : Hid (w.heap.size < ob') := Lib.hid (by have := HF3.out.size; omega)
    have HK7 := Lib.hid (And.intro k6 k7)
    have KA := Lib.hid (keep_any 57 #[.pointer (some ⟨N, 0, none⟩)] (fun x => !(x.te == te)) g (s.tick t) (.one b c x) W4 hA4 ent_close1 (stay_clo N te W4 HK4.out))
    clear hrow4 hg4 hob4 hA4 hf4 hb4 hfr4 HA3 HF3 HK3 k6 k7 HI HZ0 HZ1 HZ2
    go_wp2_with fail
    rw [rounds_succ]
    go_wp2_with fail
    go_at_call 55
    refine Calls.mono KA.out ?_
    rintro e W6 ⟨rfl, h6, hf6⟩
    have HR6 := Lib.hid (HROW.out.congr (w' := W6) (fun g' e => by
      obtain rfl := Option.some.inj e
      refine hf6.block _ HROW.out.lt ?_
      have := HLT.out.1
      have := HLT.out.2 b HBB.out
      have := HZ4.out
      simp [Hd.bl]
      omega))
    have H6 := Lib.hid h6
    have HF6 := Lib.hid (HF4.out.trans hf6 (fun y hy => by simp [Hd.bl] at hy; rcases hy with e | e; exact .inl (by simp [e]); exact .inl (by simp [e, HBB.out])))
    clear h6 hf6 KA HROW HF4
    go_wp2_with fail
    rw [HQ.out]
    refine ⟨⟨ob', c4, rfl, HK7.out.1, HK7.out.2, by have := HZ4.out; omega, HR6.out⟩, ?_, HF6.out⟩
    have h6 := H6.out
    rw [keep_neg _ (by simp [HXT.out])] at h6
    exact h6
end Go.Proofs.Ytlgjdiadohhleaa
