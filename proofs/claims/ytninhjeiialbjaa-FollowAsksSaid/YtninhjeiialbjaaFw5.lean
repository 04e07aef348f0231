/-
  slices.Collect, Sorted of ints; the matches, falling; up to where more than half go.
-/
import Derived.Test.YtninhjeiialbjaaFw4
namespace Go.Proofs.Ytninhjeiialbjaa
open Go.RowKit
set_option linter.unusedSimpArgs false
set_option linter.unusedVariables false
open Go.Sort hiding Below Holds

attribute [local go_sem] Oper.semAt_some

/-- append to a row of the call's own, inside a fenced walk -/
theorem wpListIn_append_row {F : Fence} {nn : Nat} {P : Program} {ops : Array Oper} {rest : List Oper} {o : Oper} {a : Act} {w : World} {Q : Exit → Act → World → Prop} (hgd : o.guard = none) (s x : Operand) (t : TypeId)
    (ho : o.op = .call { callee := .builtin .append, args := #[s, x], argTypes := #[t, t] })
    (e : TypeId) (i : TypeInfo) (z : Value) (size bytes : Nat) (ht : P.underlying t = some (.slice e)) (hi : P.info? e = some i) (hz : i.zero = some z)
    (hsize : i.size = size) (hby : i.bytes = bytes) (hzs : z.cells.size = size) (hsz : 0 < size)
    (v : Value) (ob : Option Nat) (n : Nat) (xs : List Value) (hs : a.eval s = v) (hrow : Row w v ob e size n xs)
    (ad : Addr) (m c : Nat) (news : List Value) (hx : a.eval x = .slice (some ad) m c) (hm : 0 < m) (hl : news.length = m * size) (hnews : ∀ j u, news[j]? = some u → w.cell? (ad.add j) = some u) (h1 : ∀ u ∈ news, u.oneCell' = true)
    (h63 : n + m ≤ maxLen) (hbytes : (n + m) * bytes ≤ 140737488355328)
    (h : ∀ v' ob' w', Row w' v' (some ob') e size (n + m) (xs ++ news) → w.grownBy w' ob → (ob = some ob' ∨ ob' = w.heap.size) → wpListIn F nn P ops Q rest (a.put o.dst v') w') : wpListIn F nn P ops Q (o :: rest) a w := by
  refine wpListIn_plain hgd fun K hK => ?_
  obtain ⟨v', ob', w', hr, h2, h3, h4⟩ := run_append_row (P := P) w t o.type e i z size bytes ht hi hz hsize hby hzs hsz v ob n xs hrow ad m c news hm hl hnews h1 h63 hbytes
  unfold Oper.wpIn
  refine ⟨by simp [Oper.about, ho, resolve, Target.leads, Sem.run_pure], ?_⟩
  rw [Oper.semAt_plain F _ _ (by rw [ho]; intro c hc'; cases hc')]
  simp [execOp, ho, resolve, invoke, builtin, hs, hx, hr, Result.andThen]
  exact hK _ _ (h v' ob' w' h2 h3 h4)

/-- what a copy under way keeps -/
def CopyI (w : World) (N : Nat) (l pre : List Int) (W : World) : Prop :=
  ∃ v ob, Blk W N #[v] 52 ∧ Row W v ob 3 1 pre.length (valsI pre) ∧ (∀ g, ob = some g → N + 3 ≤ g) ∧ pre.length ≤ l.length ∧ Below N w W

set_option maxRecDepth 100000 in
set_option maxHeartbeats 4000000 in
theorem appendSeq_any (Bs : Nat) (v : Value) (ob : Option Nat) (l : List Int) (w : World) (hBs : Blk w Bs #[v] 52) (hrow : Row w v ob 3 1 l.length (valsI l)) (hl : l.length ≤ 4096) :
    CallsIn Fence.wide 9 Try.prog 120 #[.slice none 0 0, .func (.func 119) #[] #[.pointer (some ⟨Bs, 0, none⟩)]] w fun e w' => ∃ v' ob', e = .returned v' ∧ Row w' v' ob' 3 1 l.length (valsI l) ∧ (∀ g, ob' = some g → w.heap.size ≤ g) ∧ Below w.heap.size w w' := by
  obtain ⟨i0, hi, hz0, hz1, hz2⟩ := info_parts fwInt
  have HI := Lib.hid hi
  have HZ0 := Lib.hid hz0
  have HZ1 := Lib.hid hz1
  have HZ2 := Lib.hid hz2
  clear hi hz0 hz1 hz2
  refine callsIn_of_wp_marks Try.func120 rfl trivial ?_ rfl
  simp only [Try.ntmps120, List.size_toArray, List.length_cons, List.length_nil, Nat.reduceAdd, Nat.reduceSub, Array.replicate_succ, Array.replicate_zero, List.push_toArray, List.append_toArray, List.nil_append, List.cons_append]
  gi_wp2_with fail
  obtain ⟨N, hN⟩ : ∃ N, N = w.heap.size := ⟨_, rfl⟩
  obtain ⟨W0, hW0⟩ : ∃ W0, W0 = w.alloc (.cells #[.slice none 0 0] 52) := ⟨_, rfl⟩
  have hs0 : W0.heap.size = N + 1 := by rw [hW0, hN]; simp
  have hB0 : Below N w W0 := by rw [hW0, hN]; exact (Below.refl _ _).alloc (Nat.le_refl _) _
  have b0 : Blk W0 N #[.slice none 0 0] 52 := by rw [hW0, hN]; exact blk_new _ _ _
  have hBs0 : Blk W0 Bs #[v] 52 := by rw [hW0]; exact hBs.alloc _
  have hr0 : Row W0 v ob 3 1 l.length (valsI l) := by rw [hW0]; exact hrow.alloc _
  have hobN : ∀ g, ob = some g → g < N := fun g hg => by subst hg; rw [hN]; exact hrow.lt
  rw [← hN, ← hW0]
  have HN := Lib.hid hN
  clear hN hW0 hBs hrow
  refine range_E (by omega) (gf := 119) (lb := #[.pointer (some ⟨Bs, 0, none⟩)]) rfl (enters_of Try.func119 (by kernel_rfl) rfl) [N]
    (vals1_seq 8 (by omega) Bs v ob l hBs0 hr0 (fun A B g h hg => h.block g (by have := hobN g hg; omega) (by have := hobN g hg; simp; omega))) (fun _ => rfl)
    (CopyI w N l) (fun _ _ _ => False)
    ?s1 ?s2 (fun _ _ _ _ h _ => h.elim) (by simp; omega) (by simp; omega) ⟨_, none, b0, Row.nil _ _ _, (fun _ h => by cases h), Nat.zero_le _, hB0⟩ ?rnd ?dn (fun _ _ _ h _ => h.elim)
  case s1 =>
    rintro s A B ⟨u, o, q1, q2, q3, q4, q5⟩ hB
    exact ⟨u, o, q1.step hB, q2.congr (fun g hg => hB.block g (by subst hg; exact q2.lt)), q3, q4, q5.trans (hB.mono (by have := q1.lt; omega))⟩
  case s2 =>
    rintro s A o ⟨u, ob1, q1, q2, q3, q4, q5⟩ hlt
    exact ⟨u, ob1, (World.putObj_heap_other (by omega)).trans q1, q2.congr (fun g hg => World.putObj_heap_other (by have := q3 g hg; omega)), q3, q4, q5.trans ⟨rfl, rfl, rfl, by simp, fun k hk => World.putObj_heap_other (by omega)⟩⟩
  case rnd =>
    rintro pre x W hI hx hlen hltW
    have HI2 := Lib.hid hI
    clear hI
    dsimp only [encInt]
    gi_wp2_with fail
    refine ⟨Below.refl _ _, fun o => ?_⟩
    obtain ⟨WX, hWX⟩ : ∃ WX, WX = W.putObj (W0.heap.size + 1) o := ⟨_, rfl⟩
    have hIX : CopyI w N l pre WX := by
      obtain ⟨u, ob1, q1, q2, q3, q4, q5⟩ := HI2.out
      rw [hWX]
      exact ⟨u, ob1, (World.putObj_heap_other (by omega)).trans q1, q2.congr (fun g hg => World.putObj_heap_other (by have := q3 g hg; omega)), q3, q4, q5.trans ⟨rfl, rfl, rfl, by simp, fun k hk => World.putObj_heap_other (by omega)⟩⟩
    have hsX : W0.heap.size + 1 < WX.heap.size := by rw [hWX]; simpa using hltW
    rw [← hWX]
    clear hWX HI2
    obtain ⟨u, ob1, q1, q2, q3, q4, q5⟩ := hIX
    have c0 : WX.cell? ⟨N, 0, none⟩ = some u := cell_at q1 0
    have z0 := free_at q1 0
    have l0 := q1.lt
    have HQ1 := Lib.hid q1
    have HQ2 := Lib.hid q2
    have HQ3 := Lib.hid q3
    have HQ5 := Lib.hid q5
    have HX := Lib.hid hx
    obtain ⟨ua, uc, rfl, hu1, hu2, hua⟩ := q2.shape
    unfold maxLen at hu2
    clear q1 q2 q3 q5 hx hua
    gi_wp2_with (gi_at_builtin; refine wpListIn_append_row rfl (.tmp 8) (.tmp 10) 52 rfl 3 i0 _ 1 8 Try.underlying52 HI.out HZ0.out HZ1.out HZ2.out rfl (by decide) _ ob1 pre.length (valsI pre) rfl (HQ2.out.alloc _) ⟨WX.heap.size, 0, none⟩ 1 1 [.int .i64 x] rfl (by decide) rfl ?c1 ?c2 ?c3 ?c4 ?_)
    case c1 => exact fw_one WX _ _
    case c2 => intro u hu; exact (List.all_eq_true (p := fun u : Value => u.oneCell')).1 rfl u hu
    case c3 => unfold maxLen; omega
    case c4 => omega
    intro v3 ob3 W3 hrow3 hg3 hob3
    obtain ⟨va, vc, rfl, hva1, hva2, hva⟩ := hrow3.shape
    clear hva hva2
    have hzA : (WX.alloc (.cells #[.int .i64 x] 3)).heap.size = WX.heap.size + 1 := by simp
    have hz3 := hg3.size
    have hob3' : N + 3 ≤ ob3 := by
      rcases hob3 with h | h
      · exact HQ3.out _ h
      · omega
    have hA3 : ∀ b, b < WX.heap.size → ob1 ≠ some b → W3.heap[b]? = WX.heap[b]? := fun b hb hn => (hg3.block b (by omega) (fun e => hn e.symm)).trans (Below.heap_alloc _ _ _ hb)
    have hQ3 : Blk W3 N #[.slice ua pre.length uc] 52 := (hA3 N (by omega) (fun e => by have := HQ3.out _ e; omega)).trans HQ1.out
    have z3 := free_at hQ3 0
    have l3 := hQ3.lt
    have c3 : W3.cell? ⟨N, 0, none⟩ = some (.slice ua pre.length uc) := cell_at hQ3 0
    have HF3 : Hid (FrB (N + 3) [N] WX W3) := Lib.hid ⟨hg3.os, hg3.tape, hg3.output, by omega, fun k hk _ => hA3 k (by omega) (fun e => by have := HQ3.out _ e; omega)⟩
    have HR3 := Lib.hid hrow3
    have HB3 := Lib.hid hQ3
    have HO3 := Lib.hid hob3'
    clear hrow3 hg3 hob3 hA3 hQ3 hob3' c0 z0
    gi_wp2_with fail
    have hF4 : FrB (N + 3) [N] WX (W3.setCell ⟨N, 0, none⟩ (.slice va (pre.length + 1) vc)) := HF3.out.trans ⟨rfl, rfl, rfl, by simp, fun k _ hk => heap_setCell_ne _ _ _ _ (by simpa using hk)⟩
    rw [hs0]
    refine ⟨hF4, .slice va (pre.length + 1) vc, some ob3, HB3.out.set 0 _, ?_, fun g e => by obtain rfl := Option.some.inj e; exact HO3.out, by simp; omega, HQ5.out.trans (hF4.below (by omega) (by simp))⟩
    have hr4 := HR3.out.congr (w' := W3.setCell ⟨N, 0, none⟩ (.slice va (pre.length + 1) vc)) fun g hg => by
      obtain rfl := Option.some.inj hg
      exact heap_setCell_ne _ _ _ _ (by have := HO3.out; simp only; omega)
    rw [List.length_append, valsI, List.map_append]
    exact hr4
  case dn =>
    rintro ys W rfl ⟨u, ob1, q1, q2, q3, q4, q5⟩ hK
    have c0 : W.cell? ⟨N, 0, none⟩ = some u := cell_at q1 0
    have l0 := q1.lt
    have HQ2 := Lib.hid q2
    have HQ3 := Lib.hid q3
    have HQ5 := Lib.hid q5
    have HK := Lib.hid hK
    obtain ⟨ua, uc, rfl, hu1, hu2, hua⟩ := q2.shape
    clear q1 q2 q3 q5 hK hua hu2
    gi_wp2_with fail
    refine ⟨by simp, .inl ⟨_, _, rfl, run_takeDeferred HK.out, ?_⟩⟩
    refine ⟨_, results_tmp rfl _ _ _, _, ob1, rfl, HQ2.out.congr fun g hg => World.putObj_heap_other (by have := HQ3.out g hg; omega), fun g hg => by have := HQ3.out g hg; have := HN.out; omega, ?_⟩
    rw [← HN.out]
    exact HQ5.out.trans ⟨rfl, rfl, rfl, by simp, fun k hk => World.putObj_heap_other (by omega)⟩

theorem collect_any (Bs : Nat) (v : Value) (ob : Option Nat) (l : List Int) (w : World) (hBs : Blk w Bs #[v] 52) (hrow : Row w v ob 3 1 l.length (valsI l)) (hl : l.length ≤ 4096) :
    Calls Try.prog 117 #[.func (.func 119) #[] #[.pointer (some ⟨Bs, 0, none⟩)]] w fun e w' => ∃ v' ob', e = .returned v' ∧ Row w' v' ob' 3 1 l.length (valsI l) ∧ (∀ g, ob' = some g → w.heap.size ≤ g) ∧ Below w.heap.size w w' := by
  have HC := Lib.hid (callsIn_wide.1 (appendSeq_any Bs v ob l w hBs hrow hl))
  clear hBs hrow
  go_enter Try.func117, Try.ntmps117
  go_wp2_with fail
  go_at_call 120
  refine Calls.mono HC.out ?_
  rintro e W1 ⟨v', ob', rfl, h1, h2, h3⟩
  have H1 := Lib.hid h1
  have H2 := Lib.hid h2
  have H3 := Lib.hid h3
  clear h1 h2 h3
  go_wp2_with fail
  go_ret
  exact ⟨_, _, rfl, H1.out, H2.out, H3.out⟩

/-- a row that holds some -/
theorem row_some {w : World} {v : Value} {ob : Option Nat} {l : List Int} (h : Row w v ob 3 1 l.length (valsI l)) (hl : 0 < l.length) : ∃ g cap, ob = some g ∧ v = .slice (some ⟨g, 0, none⟩) l.length cap ∧ l.length ≤ cap ∧ cap ≤ maxLen ∧ g < w.heap.size := by
  rcases h.cases with ⟨_, _, e, _⟩ | ⟨g, cap, cur, rfl, rfl, h3, h4, h5, _, _⟩
  · omega
  · exact ⟨g, cap, rfl, rfl, h4, h5, h.lt⟩

theorem sorted_any (Bs : Nat) (v : Value) (ob : Option Nat) (l : List Int) (w : World) (hBs : Blk w Bs #[v] 52) (hrow : Row w v ob 3 1 l.length (valsI l)) (hl : l.length ≤ 4096) (h0 : 0 < l.length) :
    Calls Try.prog 111 #[.func (.func 119) #[] #[.pointer (some ⟨Bs, 0, none⟩)]] w fun e w' => ∃ g cap, e = .returned (.slice (some ⟨g, 0, none⟩) l.length cap) ∧ Row w' (.slice (some ⟨g, 0, none⟩) l.length cap) (some g) 3 1 l.length (valsI (sortedI l)) ∧ w.heap.size ≤ g ∧ l.length ≤ cap ∧ cap ≤ maxLen ∧ Below w.heap.size w w' := by
  have HC := Lib.hid (collect_any Bs v ob l w hBs hrow hl)
  clear hBs hrow
  go_enter Try.func111, Try.ntmps111
  go_wp2_with fail
  go_at_call 117
  refine Calls.mono HC.out ?_
  rintro e W1 ⟨v', ob', rfl, h1, h2, h3⟩
  obtain ⟨g, cap, rfl, rfl, k1, k2, _⟩ := row_some h1 h0
  have H1 := Lib.hid h1
  have H3 := Lib.hid h3
  have H4 := Lib.hid (h2 g rfl)
  have HK2 := Lib.hid k2
  clear h1 h2 h3 k2
  go_wp2_with fail
  go_at_call 118
  refine Calls.mono (sort_row H1.out hl) ?_
  rintro e W2 ⟨rfl, h5, h6⟩
  have H5 := Lib.hid h5
  have H6 := Lib.hid h6
  clear h5 h6
  go_wp2_with fail
  go_ret
  exact ⟨g, cap, rfl, H5.out, H4.out, k1, HK2.out, H3.out.trans (H6.out.below H3.out.size (by simpa using H4.out))⟩

/-- matches, the greatest first -/
def fallI (l : List Int) : List Int := (sortedI l).reverse
theorem fallI_len (l : List Int) : (fallI l).length = l.length := by unfold fallI sortedI; rw [List.length_reverse, List.length_mergeSort]

theorem falling_any (v : Value) (ob : Option Nat) (l : List Int) (w : World) (hrow : Row w v ob 3 1 l.length (valsI l)) (hl : l.length ≤ 4096) (h0 : 0 < l.length) :
    Calls Try.prog 99 #[v] w fun e w' => ∃ g cap, e = .returned (.slice (some ⟨g, 0, none⟩) l.length cap) ∧ Row w' (.slice (some ⟨g, 0, none⟩) l.length cap) (some g) 3 1 l.length (valsI (fallI l)) ∧ l.length ≤ cap ∧ cap ≤ maxLen ∧ Below w.heap.size w w' := by
  obtain ⟨g0, cap0, rfl, rfl, _, _, _⟩ := row_some hrow h0
  have HR := Lib.hid hrow
  clear hrow
  go_enter Try.func99, Try.ntmps99
  go_wp2_with fail
  go_at_call 112
  refine Calls.mono (values_any _ w ⟨_, _, _, rfl⟩) ?_
  rintro e W1 ⟨rfl, rfl⟩
  have HB1 : Hid (Below w.heap.size w (w.alloc (.cells #[.slice (some ⟨g0, 0, none⟩) l.length cap0] 52))) := Lib.hid ((Below.refl _ _).alloc (Nat.le_refl _) _)
  have HS := Lib.hid (sorted_any w.heap.size _ _ l _ (blk_new w #[.slice (some ⟨g0, 0, none⟩) l.length cap0] 52) (HR.out.alloc _) hl h0)
  go_wp2_with fail
  go_at_call 111
  refine Calls.mono HS.out ?_
  rintro e W2 ⟨g, cap, rfl, h1, h2, h3, h4, h5⟩
  have H1 := Lib.hid h1
  have H2 := Lib.hid h2
  have H4 := Lib.hid h4
  have H5 := Lib.hid (HB1.out.trans (h5.mono HB1.out.size))
  clear h1 h2 h4 h5
  go_wp2_with fail
  go_at_call 113
  have hlen : (sortedI l).length = l.length := List.length_mergeSort _
  have hrv := reverse_row (l := sortedI l) (cap := cap) (by rw [hlen]; exact H1.out) (by omega)
  rw [hlen] at hrv
  refine Calls.mono hrv ?_
  rintro e W3 ⟨rfl, h6, h7⟩
  have H6 := Lib.hid h6
  have H7 := Lib.hid h7
  clear h6 h7 hrv hlen
  go_wp2_with fail
  go_ret
  exact ⟨g, cap, rfl, H6.out, h3, H4.out, H5.out.trans (H7.out.below H5.out.size (by have := H2.out; simp at this; simp; omega))⟩

/-- up to where more than half of some matches go -/
def reachI (l : List Int) : Int := (fallI l)[l.length / 2]?.getD 0

theorem reached_any (v : Value) (ob : Option Nat) (l : List Int) (w : World) (hrow : Row w v ob 3 1 l.length (valsI l)) (hl : l.length ≤ 4096) (h0 : 0 < l.length) :
    Calls Try.prog 67 #[v] w fun e w' => e = .returned (.int .i64 (reachI l)) ∧ Below w.heap.size w w' := by
  obtain ⟨g0, cap0, rfl, rfl, m1, m2, _⟩ := row_some hrow h0
  unfold maxLen at m2
  have HF := Lib.hid (falling_any _ _ l w hrow hl h0)
  clear hrow
  obtain ⟨q, hq⟩ : ∃ q, q = reachI l := ⟨_, rfl⟩
  have HQ := Lib.hid hq
  rw [← hq]
  clear hq
  go_enter Try.func67, Try.ntmps67
  go_wp2_with fail
  go_at_call 99
  refine Calls.mono HF.out ?_
  rintro e W1 ⟨g, cap, rfl, h1, h3, h4, h5⟩
  unfold maxLen at h4
  have H5 := Lib.hid h5
  have hlt := h1.lt
  have hq2 : (fallI l)[l.length / 2]? = some q := by
    rw [HQ.out]; unfold reachI
    rw [List.getElem?_eq_getElem (by rw [fallI_len]; omega)]; rfl
  obtain ⟨g', e, hc, _⟩ := h1.cell (l.length / 2) (by omega)
  obtain rfl := Option.some.inj e
  rw [valsI, List.getElem?_map, hq2] at hc
  have hc' : W1.cell? ⟨g, l.length / 2, none⟩ = some (.int .i64 q) := hc
  clear h1 h5 hc hq2 e
  go_wp2_with fail
  go_ret
  exact ⟨rfl, H5.out⟩
end Go.Proofs.Ytninhjeiialbjaa
