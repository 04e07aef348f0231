/-
  All of a queue with packets: a copy of them in a row of its own.
-/
import Derived.Test.YtninhjeiialbjaaPlj
namespace Go.Proofs.Ytninhjeiialbjaa
open Go.RowKit Go.Shelf
set_option linter.unusedSimpArgs false
set_option linter.unusedVariables false

attribute [local go_sem] Oper.semAt_some

/-- append to a row of the call's own, inside a fenced walk -/
theorem wpListIn_append_rowP {F : Fence} {nn : Nat} {P : Program} {ops : Array Oper} {rest : List Oper} {o : Oper} {a : Act} {w : World} {Q : Exit → Act → World → Prop} (hgd : o.guard = none) (s x : Operand) (t : TypeId)
    (ho : o.op = .call { callee := .builtin .append, args := #[s, x], argTypes := #[t, t] })
    (e : TypeId) (i : TypeInfo) (z : Value) (size bytes : Nat) (ht : P.underlying t = some (.slice e)) (hi : P.info? e = some i) (hz : i.zero = some z)
    (hsize : i.size = size) (hby : i.bytes = bytes) (hzs : z.cells.size = size) (hsz : 0 < size)
    (v : Value) (ob : Option Nat) (n : Nat) (xs : List Value) (hs : a.eval s = v) (hrow : Row w v ob e size n xs)
    (ad : Addr) (m c : Nat) (news : List Value) (hx : a.eval x = .slice (some ad) m c) (hm : 0 < m) (hl : news.length = m * size) (hnews : ∀ j u, news[j]? = some u → w.cell? (ad.add j) = some u) (h1 : ∀ u ∈ news, u.oneCell' = true)
    (h63 : n + m ≤ maxLen) (hbytes : (n + m) * bytes ≤ 140737488355328)
    (h : ∀ v' ob' w', Row w' v' (some ob') e size (n + m) (xs ++ news) → w.grownBy w' ob → (ob = some ob' ∨ ob' = w.heap.size) → wpListIn F nn P ops Q rest (a.put o.dst v') w') : wpListIn F nn P ops Q (o :: rest) a w := by
  refine wpListIn_plain hgd fun K hK => ?_
  obtain ⟨v', ob', w', hr, h2, h3, h4⟩ := run_append_row (P := P) w t o.type e i z size bytes ht hi hz hsize hby hzs hsz v ob n xs hrow ad m c news hm hl hnews h1 h63 hbytes
  unfold Oper.wpIn
  refine ⟨by simp [Oper.about, ho, resolve, Target.leads, Sem.run_pure], ?_⟩
  rw [Oper.semAt_plain F _ _ (by rw [ho]; intro c hc'; cases hc')]
  simp [execOp, ho, resolve, invoke, builtin, hs, hx, hr, Result.andThen]
  exact hK _ _ (h v' ob' w' h2 h3 h4)

theorem plPkt : (Try.prog.info? 57).map (fun i => (i.zero, i.size, i.bytes)) = some (some (.agg #[.int .i64 0, .int .i64 0, .int .i64 0, .slice none 0 0]), 4, 48) := by kernel_rfl
theorem plk_new (W : World) (x : PkE) (t : TypeId) : ∀ j u, x.cells[j]? = some u → (W.alloc (.cells #[.int .i64 x.num, .int .i64 x.t, .int .i64 x.c, .slice x.a x.n x.ca] t)).cell? ((⟨W.heap.size, 0, none⟩ : Addr).add j) = some u := by
  intro j u hj
  have hb : Blk (W.alloc (.cells #[.int .i64 x.num, .int .i64 x.t, .int .i64 x.c, .slice x.a x.n x.ca] t)) W.heap.size #[.int .i64 x.num, .int .i64 x.t, .int .i64 x.c, .slice x.a x.n x.ca] t := blk_new _ _ _
  rw [show ((⟨W.heap.size, 0, none⟩ : Addr).add j) = ⟨W.heap.size, j, none⟩ by unfold Addr.add; split <;> simp_all]
  rw [cell_at hb, ← hj]
  simp [PkE.cells]

/-- what a gathering of packets keeps -/
def AllI (w : World) (N : Nat) (pre : List PkE) (W : World) : Prop :=
  ∃ v ob, Blk W N #[v] 68 ∧ Row W v ob 57 4 pre.length (pre.flatMap PkE.cells) ∧ (∀ g, ob = some g → N + 4 ≤ g) ∧ Below N w W

set_option maxRecDepth 100000 in
set_option maxHeartbeats 8000000 in
theorem qall_any (D R o room f n : Nat) (by_ dr : Int) (E : Nat → PkE) (w : World) (hq : QIn w D R o room f n by_ dr E) :
    Calls Try.prog 76 #[.pointer (some ⟨D, 0, none⟩)] w fun e w' => e = .returned (.func (.func 107) #[] #[.pointer (some ⟨w.heap.size, 0, none⟩)]) ∧ (∃ v ob, Blk w' w.heap.size #[v] 68 ∧ Row w' v ob 57 4 n (pL E n) ∧ (∀ g, ob = some g → w.heap.size < g)) ∧ Below w.heap.size w w' := by
  refine (callsIn_wide (n := 9)).1 ?_
  obtain ⟨i0, hi, hz0, hz1, hz2⟩ := info_parts plPkt
  have HI := Lib.hid hi
  have HZ0 := Lib.hid hz0
  have HZ1 := Lib.hid hz1
  have HZ2 := Lib.hid hz2
  clear hi hz0 hz1 hz2
  have hmf : ∀ (fn : Fn) (first cap : Array Value) (w : World), (Instr.makeFunc fn first cap).run Try.prog w = .ok (.func fn first cap) w := fun _ _ _ _ => rfl
  have hp : ∀ W, (binOp .neq 60 (.pointer (some ⟨D, 0, none⟩)) (.pointer none)).run Try.prog W = .ok (.bool true) W := fun _ => rfl
  have hn64 : n ≤ 64 := Nat.le_trans hq.nl hq.r64
  have hDl := hq.own.lt
  have hRl : R < w.heap.size := by obtain ⟨_, h1, _⟩ := hq.ring; exact h1.lt
  have hLb : ∀ j, j < n → 0 < (E j).n → (E j).b < w.heap.size := fun j hj h0 => ((hq.ld j hj).by_.at_ h0).2
  obtain ⟨N, hN⟩ : ∃ N, N = w.heap.size := ⟨_, rfl⟩
  have HQ := Lib.hid hq
  have HLB := Lib.hid hLb
  clear hq hLb
  refine callsIn_of_wp_marks Try.func76 rfl trivial ?_ rfl
  simp only [Try.ntmps76, List.size_toArray, List.length_cons, List.length_nil, Nat.reduceAdd, Nat.reduceSub, Array.replicate_succ, Array.replicate_zero, List.push_toArray, List.append_toArray, List.nil_append, List.cons_append]
  gi_wp2_with (first
    | (refine ⟨trivial, ?_⟩; gi_at_call 106; refine (callsIn_wide.2 (ringAll_any D _)).mono ?_; rintro e w2 ⟨rfl, rfl⟩)
    | fail)
  rw [← hN]
  obtain ⟨W0, hW0⟩ : ∃ W0, W0 = (w.alloc (.cells #[.slice none 0 0] 68)).alloc (.cells #[.pointer (some ⟨D, 0, none⟩)] 154) := ⟨_, rfl⟩
  have hs0 : W0.heap.size = N + 2 := by rw [hW0, hN]; simp
  have hB0 : Below N w W0 := by rw [hW0, hN]; exact ((Below.refl _ _).alloc (Nat.le_refl _) _).alloc (by simp) _
  have b0 : Blk W0 N #[.slice none 0 0] 68 := by rw [hW0, hN]; exact (blk_new _ _ _).alloc _
  have b1 : Blk W0 (N + 1) #[.pointer (some ⟨D, 0, none⟩)] 154 := by
    rw [hW0, hN]
    have := blk_new (w.alloc (.cells #[.slice none 0 0] 68)) #[.pointer (some ⟨D, 0, none⟩)] 154
    rwa [World.size_alloc] at this
  have hq0 : QIn W0 D R o room f n by_ dr E := HQ.out.below (hN ▸ hB0)
  rw [← hW0]
  have HN := Lib.hid hN
  rw [← hN] at hDl hRl
  have hLb : ∀ j, j < n → 0 < (E j).n → (E j).b < N := fun j hj h0 => by rw [hN]; exact HLB.out j hj h0
  clear hN hW0
  refine range_F (by omega) (gf := 116) (lb := #[.pointer (some ⟨N + 1, 0, none⟩)]) rfl (enters_of Try.func116 (by kernel_rfl) rfl) [N]
    (ring1_seq 8 (by omega) (N + 1) D R o room f n by_ dr E b1 hq0 (fun A B h => h.block (N + 1) (by omega) (by simp; omega))
      (fun A B h hq => hq.frB h ⟨by omega, by simp; omega⟩ ⟨by omega, by simp; omega⟩ (fun j hj h0 => by have := hLb j hj h0; exact ⟨by omega, by simp; omega⟩))) (fun _ => rfl)
    (AllI w N) (fun _ _ _ => False)
    ?s1 ?s2 (fun _ _ _ _ h _ => h.elim) (by simp; omega) (by simp; omega) ⟨_, none, b0, Row.nil _ _ _, (fun _ h => by cases h), hB0⟩ ?rnd ?dn (fun _ _ _ h _ => h.elim)
  case s1 =>
    rintro s A B ⟨u, o, q1, q2, q3, q5⟩ hB
    exact ⟨u, o, q1.step hB, q2.congr (fun g hg => hB.block g (by subst hg; exact q2.lt)), q3, q5.trans (hB.mono (by have := q1.lt; omega))⟩
  case s2 =>
    rintro s A o ⟨u, ob1, q1, q2, q3, q5⟩ hlt
    exact ⟨u, ob1, (World.putObj_heap_other (by omega)).trans q1, q2.congr (fun g hg => World.putObj_heap_other (by have := q3 g hg; omega)), q3, q5.trans ⟨rfl, rfl, rfl, by simp, fun k hk => World.putObj_heap_other (by omega)⟩⟩
  case rnd =>
    rintro pre x W hI hx hlen hltW
    have HI2 := Lib.hid hI
    have hNW : N < W.heap.size := by obtain ⟨_, _, q1, _⟩ := hI; exact q1.lt
    have HX := Lib.hid hx
    clear hI hx
    dsimp only [encPk]
    gi_wp2_with fail
    obtain ⟨WA, hWA⟩ : ∃ WA, WA = W.alloc (.cells #[.int .i64 x.num, .int .i64 x.t, .int .i64 x.c, .slice x.a x.n x.ca] 57) := ⟨_, rfl⟩
    have hBA : Below W.heap.size W WA := by rw [hWA]; exact (Below.refl _ _).alloc (Nat.le_refl _) _
    obtain ⟨M, hM⟩ : ∃ M, M = W.heap.size := ⟨_, rfl⟩
    have hxA : Blk WA M #[.int .i64 x.num, .int .i64 x.t, .int .i64 x.c, .slice x.a x.n x.ca] 57 := by rw [hWA, hM]; exact blk_new _ _ _
    rw [← hWA, ← hM]
    refine ⟨by rw [hM]; exact hBA, fun o => ?_⟩
    obtain ⟨WX, hWX⟩ : ∃ WX, WX = WA.putObj (W0.heap.size + 1) o := ⟨_, rfl⟩
    have hIX : AllI w N pre WX := by
      obtain ⟨u, ob1, q1, q2, q3, q5⟩ := HI2.out
      rw [hWX]
      refine ⟨u, ob1, (World.putObj_heap_other (by omega)).trans (q1.step hBA), (q2.congr (fun g hg => hBA.block g (by subst hg; exact q2.lt))).congr (fun g hg => World.putObj_heap_other (by have := q3 g hg; omega)), q3, (q5.trans (hBA.mono (by omega))).trans ⟨rfl, rfl, rfl, by simp, fun k hk => World.putObj_heap_other (by omega)⟩⟩
    have hxX : Blk WX M #[.int .i64 x.num, .int .i64 x.t, .int .i64 x.c, .slice x.a x.n x.ca] 57 := by rw [hWX]; exact (World.putObj_heap_other (by omega)).trans hxA
    have hsX : W0.heap.size + 1 < WX.heap.size := by rw [hWX]; have := hBA.size; simp; omega
    rw [← hWX]
    have hMN : M ≠ N ∧ N + 3 < M := by rw [hM]; omega
    clear hWX HI2 hWA hBA hM hxA
    obtain ⟨u, ob1, q1, q2, q3, q5⟩ := hIX
    have c0 : WX.cell? ⟨N, 0, none⟩ = some u := cell_at q1 0
    have z0 := free_at q1 0
    have l0 := q1.lt
    have x0 : WX.cell? ⟨M, 0, none⟩ = some (.int .i64 x.num) := cell_at hxX 0
    have x1 : WX.cell? ⟨M, 1, none⟩ = some (.int .i64 x.t) := cell_at hxX 1
    have x2 : WX.cell? ⟨M, 2, none⟩ = some (.int .i64 x.c) := cell_at hxX 2
    have x3 : WX.cell? ⟨M, 3, none⟩ = some (.slice x.a x.n x.ca) := cell_at hxX 3
    have l1 := hxX.lt
    have HQ1 := Lib.hid q1
    have HQ2 := Lib.hid q2
    have HQ3 := Lib.hid q3
    have HQ5 := Lib.hid q5
    obtain ⟨ua, uc, rfl, hu1, hu2, hua⟩ := q2.shape
    unfold maxLen at hu2
    clear q1 q2 q3 q5 hua hxX
    gi_wp2_with (gi_at_builtin; refine wpListIn_append_rowP rfl (.tmp 12) (.tmp 14) 68 rfl 57 i0 _ 4 48 Try.underlying68 HI.out HZ0.out HZ1.out HZ2.out rfl (by decide) _ ob1 pre.length (pre.flatMap PkE.cells) rfl (HQ2.out.alloc _) ⟨WX.heap.size, 0, none⟩ 1 1 x.cells rfl (by decide) rfl ?c1 ?c2 ?c3 ?c4 ?_)
    case c1 => exact plk_new WX x _
    case c2 => intro u hu; exact (List.all_eq_true (p := fun u : Value => u.oneCell')).1 rfl u hu
    case c3 => unfold maxLen; omega
    case c4 => omega
    intro v3 ob3 W3 hrow3 hg3 hob3
    obtain ⟨va, vc, rfl, hva1, hva2, hva⟩ := hrow3.shape
    clear hva hva2
    have hzA : (WX.alloc (.cells #[.int .i64 x.num, .int .i64 x.t, .int .i64 x.c, .slice x.a x.n x.ca] 57)).heap.size = WX.heap.size + 1 := by simp
    have hz3 := hg3.size
    have hob3' : N + 4 ≤ ob3 := by
      rcases hob3 with h | h
      · exact HQ3.out _ h
      · omega
    have hA3 : ∀ b, b < WX.heap.size → ob1 ≠ some b → W3.heap[b]? = WX.heap[b]? := fun b hb hn => (hg3.block b (by omega) (fun e => hn e.symm)).trans (Below.heap_alloc _ _ _ hb)
    have hQ3 : Blk W3 N #[.slice ua pre.length uc] 68 := (hA3 N (by omega) (fun e => by have := HQ3.out _ e; omega)).trans HQ1.out
    have z3 := free_at hQ3 0
    have l3 := hQ3.lt
    have c3 : W3.cell? ⟨N, 0, none⟩ = some (.slice ua pre.length uc) := cell_at hQ3 0
    have HF3 : Hid (FrB (N + 4) [N] WX W3) := Lib.hid ⟨hg3.os, hg3.tape, hg3.output, by omega, fun k hk _ => hA3 k (by omega) (fun e => by have := HQ3.out _ e; omega)⟩
    have HR3 := Lib.hid hrow3
    have HB3 := Lib.hid hQ3
    have HO3 := Lib.hid hob3'
    clear hrow3 hg3 hob3 hA3 hQ3 hob3' c0 z0
    gi_wp2_with fail
    have hF4 : FrB (N + 4) [N] WX (W3.setCell ⟨N, 0, none⟩ (.slice va (pre.length + 1) vc)) := HF3.out.trans ⟨rfl, rfl, rfl, by simp, fun k _ hk => heap_setCell_ne _ _ _ _ (by simpa using hk)⟩
    rw [hs0]
    refine ⟨hF4, .slice va (pre.length + 1) vc, some ob3, HB3.out.set 0 _, ?_, fun g e => by obtain rfl := Option.some.inj e; exact HO3.out, HQ5.out.trans (hF4.below (by omega) (by simp))⟩
    have hr4 := HR3.out.congr (w' := W3.setCell ⟨N, 0, none⟩ (.slice va (pre.length + 1) vc)) fun g hg => by
      obtain rfl := Option.some.inj hg
      exact heap_setCell_ne _ _ _ _ (by have := HO3.out; simp only; omega)
    rw [List.length_append, List.flatMap_append, List.flatMap_singleton]
    exact hr4
  case dn =>
    rintro ys W rfl ⟨u, ob1, q1, q2, q3, q5⟩ hK
    have HQ1 := Lib.hid q1
    have HQ2 := Lib.hid q2
    have HQ3 := Lib.hid q3
    have HQ5 := Lib.hid q5
    have HK := Lib.hid hK
    clear q1 q2 q3 q5 hK
    gi_wp2_with fail
    refine ⟨by simp, .inl ⟨_, _, rfl, run_takeDeferred HK.out, ?_⟩⟩
    refine ⟨_, results_tmp rfl _ _ _, (by rw [HN.out]; rfl), ⟨u, ob1, ?_, ?_, fun g hg => by have := HQ3.out g hg; have := HN.out; omega⟩, ?_⟩
    · rw [← HN.out]
      exact (World.putObj_heap_other (by omega)).trans HQ1.out
    · have h2 := HQ2.out.congr (w' := W.putObj W0.heap.size (.deferred none)) fun g hg => World.putObj_heap_other (by have := HQ3.out g hg; omega)
      rw [fstE_len] at h2
      have e1 : (fstE E n).flatMap PkE.cells = pL E n := by unfold fstE pL; rw [List.flatMap_map]
      rw [e1] at h2
      exact h2
    · rw [← HN.out]
      exact HQ5.out.trans ⟨rfl, rfl, rfl, by simp, fun k hk => World.putObj_heap_other (by omega)⟩
end Go.Proofs.Ytninhjeiialbjaa
