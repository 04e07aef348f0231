/-
  An air in memory; a message put into it.
-/
import Derived.Test.YtokhdpokcfkfpaaAi2
import Derived.Deep.RegionLaw
namespace Go.Proofs.Ytokhdpokcfkfpaa
open Go.RowKit
set_option linter.unusedSimpArgs false
set_option linter.unusedVariables false

def encW (p : Int × Int) : Value := .agg #[.int .i64 p.1, .int .i64 p.2]
theorem keyW : KeyK Try.prog 71 (.struct #[⟨"from", 3, 0, false, "", "weir/air", 0⟩, ⟨"to", 3, 1, false, "", "weir/air", 8⟩]) encW := key_way
structure AirAt (W : World) (g b : Nat) (ob : Option Nat) (v : Value) (L : List MsE) (M : Int × Int → Option Value) : Prop where
  blk : Blk W g #[v, .map (some b)] 61
  row : Row W v ob 39 14 L.length (msL L)
  map : MapU W b encW M
  ne : g ≠ b
  no : ob ≠ some g
  nb : ob ≠ some b
theorem AirAt.fr {W W' : World} {g b : Nat} {ob : Option Nat} {v : Value} {L : List MsE} {M : Int × Int → Option Value} {l : List Nat} (h : AirAt W g b ob v L M) (hf : Fr l W W') (h1 : g ∉ l) (h2 : b ∉ l) (h3 : ∀ x, ob = some x → x ∉ l) : AirAt W' g b ob v L M :=
  ⟨(hf.block g h.blk.lt h1).trans h.blk, h.row.congr fun x hx => hf.block x (by have hr := h.row; subst hx; exact hr.lt) (h3 x hx), h.map.congr (hf.block b h.map.lt h2), h.ne, h.no, h.nb⟩
theorem AirAt.below {W W' : World} {g b : Nat} {ob : Option Nat} {v : Value} {L : List MsE} {M : Int × Int → Option Value} (h : AirAt W g b ob v L M) (hB : Below W.heap.size W W') : AirAt W' g b ob v L M :=
  h.fr (l := []) (Fr.of_below hB) (by simp) (by simp) (by simp)
theorem AirAt.n_le {W : World} {g b : Nat} {ob : Option Nat} {v : Value} {L : List MsE} {M : Int × Int → Option Value} (h : AirAt W g b ob v L M) : ∃ a c, v = .slice a L.length c ∧ L.length ≤ c ∧ c ≤ maxLen ∧ a = ob.map (fun g => ⟨g, 0, none⟩) := h.row.shape

theorem run_makeMap_none {P : Program} {t k e : TypeId} (ht : P.underlying t = some (.map k e)) (w : World) : (Instr.makeMap t none).run P w = .ok (.map (some w.heap.size)) (w.alloc (.map #[] 0)) := by
  simp only [Instr.makeMap, Sem.run_bind, run_underlying ht, Result.andThen_ok]
  rfl
set_option maxRecDepth 100000 in
set_option maxHeartbeats 2000000 in
theorem airNew_any (w : World) : Calls Try.prog 9 #[] w fun e w' => e = .returned (.pointer (some ⟨w.heap.size + 1, 0, none⟩)) ∧ AirAt w' (w.heap.size + 1) w.heap.size none (.slice none 0 0) [] (fun _ => none) ∧ Below w.heap.size w w' := by
  have hmm := fun W => run_makeMap_none (P := Try.prog) Try.underlying59 W
  go_enter Try.func9, Try.ntmps9
  go_wp2_with fail
  go_ret
  refine ⟨rfl, ⟨?_, Row.nil _ _ _, ?_, by omega, by simp, by simp⟩, ((Below.refl _ _).alloc (Nat.le_refl _) _).alloc (by simp) _⟩
  · have := blk_new (w.alloc (.map #[] 0)) #[.slice none 0 0, .map (some w.heap.size)] 61
    rw [World.size_alloc] at this
    exact this
  · exact (MapU.new w).congr (Below.heap_alloc _ _ _ (by simp))

def wayB (f t : Int) : Bool := decide (1 ≤ f) && decide (f ≤ 255) && decide (1 ≤ t) && decide (t ≤ 255)
set_option maxRecDepth 100000 in
set_option maxHeartbeats 2000000 in
theorem isWay_any (f t : Int) (w : World) : Calls Try.prog 31 #[.int .i64 f, .int .i64 t] w fun e w' => e = .returned (.bool (wayB f t)) ∧ w = w' := by
  obtain ⟨B, hB⟩ : ∃ B, B = wayB f t := ⟨_, rfl⟩
  rw [← hB]
  have HB := Lib.hid hB
  clear hB
  have hcs : f < 1 ∨ (1 ≤ f ∧ 255 < f) ∨ (1 ≤ f ∧ f ≤ 255 ∧ t < 1) ∨ (1 ≤ f ∧ f ≤ 255 ∧ 1 ≤ t ∧ 255 < t) ∨ (1 ≤ f ∧ f ≤ 255 ∧ 1 ≤ t ∧ t ≤ 255) := by omega
  rcases hcs with h1 | ⟨h1, h2⟩ | ⟨h1, h2, h3⟩ | ⟨h1, h2, h3, h4⟩ | ⟨h1, h2, h3, h4⟩
  all_goals
    go_enter Try.func31, Try.ntmps31
    go_wp2_with fail
    go_ret
    refine ⟨?_, rfl⟩
    rw [HB.out]
    unfold wayB
    simp
    try omega
set_option maxRecDepth 100000 in
set_option maxHeartbeats 2000000 in
theorem lacks_ok (g b : Nat) (ob : Option Nat) (v : Value) (L : List MsE) (M : Int × Int → Option Value) (k : Nat) (w : World) (h : AirAt w g b ob v L M) (hk : k < L.length) :
    Calls Try.prog 33 #[.pointer (some ⟨g, 0, none⟩), .int .i64 (k : Int)] w fun e w' => e = .returned (.int .i64 0) ∧ w = w' := by
  obtain ⟨a, c, rfl, h1, h2, _⟩ := h.n_le
  unfold maxLen at h2
  have c0 : w.cell? ⟨g, 0, none⟩ = some (.slice a L.length c) := cell_at h.blk 0
  obtain ⟨n, hn⟩ : ∃ n, n = L.length := ⟨_, rfl⟩
  rw [← hn] at c0 h1 hk
  clear h hn
  go_enter Try.func33, Try.ntmps33
  go_wp2_with fail
  go_ret
  exact ⟨rfl, rfl⟩
set_option maxRecDepth 100000 in
set_option maxHeartbeats 2000000 in
theorem airLen_any (g b : Nat) (ob : Option Nat) (v : Value) (L : List MsE) (M : Int × Int → Option Value) (w : World) (h : AirAt w g b ob v L M) :
    Calls Try.prog 11 #[.pointer (some ⟨g, 0, none⟩)] w fun e w' => e = .returned (.int .i64 (L.length : Int)) ∧ w = w' := by
  obtain ⟨a, c, rfl, h1, h2, _⟩ := h.n_le
  unfold maxLen at h2
  have c0 : w.cell? ⟨g, 0, none⟩ = some (.slice a L.length c) := cell_at h.blk 0
  obtain ⟨n, hn⟩ : ∃ n, n = L.length := ⟨_, rfl⟩
  rw [← hn] at c0 h1 ⊢
  clear h hn
  go_enter Try.func11, Try.ntmps11
  go_wp2_with fail
  go_ret
  exact ⟨rfl, rfl⟩

theorem msInfo : (Try.prog.info? 39).map (fun i => (i.zero, i.size, i.bytes)) = some (some (.agg #[.int .i8 0, .int .i64 0, .int .i64 0, .int .i64 0, .int .i64 0, .int .i64 0, .int .i64 0, .bool false, .slice none 0 0, .int .i64 0, .int .i64 0, .int .u8 0, .slice none 0 0, .slice none 0 0]), 14, 160) := by kernel_rfl
theorem news_ms (W : World) (xs : Array Value) (e : TypeId) (j : Nat) (u : Value) (h : xs.toList[j]? = some u) : (W.alloc (.cells xs e)).cell? ((⟨W.heap.size, 0, none⟩ : Addr).add j) = some u := by
  have h1 : (W.alloc (.cells xs e)).heap[W.heap.size]? = some (.cells xs e (0, 0)) := heap_alloc_new W _
  have h2 := cell_at h1 (0 + j)
  rw [Nat.zero_add, ← Array.getElem?_toList, h] at h2
  have h3 : (⟨W.heap.size, 0, none⟩ : Addr).add j = ⟨W.heap.size, 0 + j, none⟩ := by unfold Addr.add; split <;> simp_all
  rw [h3, Nat.zero_add]
  exact h2

set_option maxRecDepth 100000 in
set_option maxHeartbeats 8000000 in
theorem put_ok (g b : Nat) (ob : Option Nat) (v : Value) (L : List MsE) (M : Int × Int → Option Value) (m : MsE) (w : World) (h : AirAt w g b ob v L M) (hn : L.length < 1024) :
    Calls Try.prog 32 #[.pointer (some ⟨g, 0, none⟩), .agg #[.int .i8 m.kd, .int .i64 m.f, .int .i64 m.t, .int .i64 m.te, .int .i64 m.ix, .int .i64 m.la, .int .i64 m.co, .bool m.ok, .slice none 0 0, .int .i64 m.si, .int .i64 m.st, .int .u8 m.sc, .slice none 0 0, .slice none 0 0]] w fun e w' => e = .returned (.int .i64 0) ∧ ∃ ob' v', AirAt w' g b (some ob') v' (L ++ [m]) M ∧ Fr (g :: ob.toList) w w' ∧ (ob = some ob' ∨ w.heap.size ≤ ob') := by
  obtain ⟨N, hN⟩ : ∃ N, N = w.heap.size := ⟨_, rfl⟩
  obtain ⟨W1, hW1⟩ : ∃ W1, W1 = w.alloc (.cells #[.int .i8 m.kd, .int .i64 m.f, .int .i64 m.t, .int .i64 m.te, .int .i64 m.ix, .int .i64 m.la, .int .i64 m.co, .bool m.ok, .slice none 0 0, .int .i64 m.si, .int .i64 m.st, .int .u8 m.sc, .slice none 0 0, .slice none 0 0] 39) := ⟨_, rfl⟩
  have hB1 : Below w.heap.size w W1 := by rw [hW1]; exact (Below.refl _ _).alloc (Nat.le_refl _) _
  have hk1 : Blk W1 N #[.int .i8 m.kd, .int .i64 m.f, .int .i64 m.t, .int .i64 m.te, .int .i64 m.ix, .int .i64 m.la, .int .i64 m.co, .bool m.ok, .slice none 0 0, .int .i64 m.si, .int .i64 m.st, .int .u8 m.sc, .slice none 0 0, .slice none 0 0] 39 := by rw [hW1, hN]; exact blk_new _ _ _
  have h1 := h.below hB1
  obtain ⟨a, c, rfl, n1, n2, ha⟩ := h.n_le
  unfold maxLen at n2
  clear ha
  obtain ⟨n, hnn⟩ : ∃ n, n = L.length := ⟨_, rfl⟩
  rw [← hnn] at h1 n1 hn
  have c0 : W1.cell? ⟨g, 0, none⟩ = some (.slice a n c) := cell_at h1.blk 0
  have m0 : W1.cell? ⟨N, 0, none⟩ = some (.int .i8 m.kd) := cell_at (Lib.hid hk1).out 0
  have m1 : W1.cell? ⟨N, 1, none⟩ = some (.int .i64 m.f) := cell_at (Lib.hid hk1).out 1
  have m2 : W1.cell? ⟨N, 2, none⟩ = some (.int .i64 m.t) := cell_at (Lib.hid hk1).out 2
  have m3 : W1.cell? ⟨N, 3, none⟩ = some (.int .i64 m.te) := cell_at (Lib.hid hk1).out 3
  have m4 : W1.cell? ⟨N, 4, none⟩ = some (.int .i64 m.ix) := cell_at (Lib.hid hk1).out 4
  have m5 : W1.cell? ⟨N, 5, none⟩ = some (.int .i64 m.la) := cell_at (Lib.hid hk1).out 5
  have m6 : W1.cell? ⟨N, 6, none⟩ = some (.int .i64 m.co) := cell_at (Lib.hid hk1).out 6
  have m7 : W1.cell? ⟨N, 7, none⟩ = some (.bool m.ok) := cell_at (Lib.hid hk1).out 7
  have m8 : W1.cell? ⟨N, 8, none⟩ = some (.slice none 0 0) := cell_at (Lib.hid hk1).out 8
  have m9 : W1.cell? ⟨N, 9, none⟩ = some (.int .i64 m.si) := cell_at (Lib.hid hk1).out 9
  have m10 : W1.cell? ⟨N, 10, none⟩ = some (.int .i64 m.st) := cell_at (Lib.hid hk1).out 10
  have m11 : W1.cell? ⟨N, 11, none⟩ = some (.int .u8 m.sc) := cell_at (Lib.hid hk1).out 11
  have m12 : W1.cell? ⟨N, 12, none⟩ = some (.slice none 0 0) := cell_at (Lib.hid hk1).out 12
  have m13 : W1.cell? ⟨N, 13, none⟩ = some (.slice none 0 0) := cell_at (Lib.hid hk1).out 13
  have HA1 := Lib.hid h1
  have HNN := Lib.hid hnn
  have HF1 : Hid (Fr (g :: ob.toList) w W1) := Lib.hid ((Fr.of_below hB1).mono (by simp))
  have hgl : g < W1.heap.size := h1.blk.lt
  have hNl : N < W1.heap.size := hk1.lt
  have HGN : g ≠ N := by have := h.blk.lt; omega
  have HW : Hid (w.heap.size ≤ W1.heap.size) := Lib.hid hB1.size
  obtain ⟨i0, hi, hz0, hz1, hz2⟩ := info_parts msInfo
  have HI := Lib.hid hi
  have HZ0 := Lib.hid hz0
  have HZ1 := Lib.hid hz1
  have HZ2 := Lib.hid hz2
  have TW := Lib.hid (twin_any m)
  clear h h1 hB1 hk1 hi hz0 hz1 hz2 hnn
  go_enter Try.func32, Try.ntmps32
  go_upto_region 1 with fail
  rw [← hN, ← hW1]
  clear hN hW1
  go_upto_region 3 with fail
  go_region_law (first
    | (go_simp; go_at_call 35; refine Calls.mono (TW.out _) ?_; rintro e W3 ⟨rfl, hB3⟩; have hB4 : Below W1.heap.size W1 W3 := ⟨hB3.os, hB3.tape, hB3.output, hB3.size, hB3.block⟩; have HA3 := Lib.hid (HA1.out.below hB4); have HF3 := Lib.hid (HF1.out.trans (Fr.of_below hB4) (fun x hx => by simp at hx)); have HRW3 : Hid (Row W3 (.slice a n c) ob 39 14 n (msL L)) := Lib.hid (by have := HA3.out.row; rw [← HNN.out] at this; exact this); have HZ3 := Lib.hid hB4.size; have e0 : W3.cell? ⟨g, 0, none⟩ = some (.slice a n c) := cell_at HA3.out.blk 0; have hg3 : g < W3.heap.size := HA3.out.blk.lt; have hA : ∀ o, (W3.alloc o).cell? ⟨g, 0, none⟩ = some (.slice a n c) := fun o => cell_at (HA3.out.blk.alloc o) 0; clear hB3 hB4; go_simp)
    | (refine step_append_row rfl (.tmp 15) (.tmp 18) 28 rfl 39 i0 _ 14 160 Try.underlying28 HI.out HZ0.out HZ1.out HZ2.out rfl (by decide) _ ob n (msL L) rfl (by first | exact HRW3.out.alloc _) ⟨W3.heap.size, 0, none⟩ 1 1 [.int .i8 m.kd, .int .i64 m.f, .int .i64 m.t, .int .i64 m.te, .int .i64 m.ix, .int .i64 m.la, .int .i64 m.co, .bool m.ok, .slice none 0 0, .int .i64 m.si, .int .i64 m.st, .int .u8 m.sc, .slice none 0 0, .slice none 0 0] rfl (by decide) rfl (by intro j u hu; exact news_ms W3 #[.int .i8 m.kd, .int .i64 m.f, .int .i64 m.t, .int .i64 m.te, .int .i64 m.ix, .int .i64 m.la, .int .i64 m.co, .bool m.ok, .slice none 0 0, .int .i64 m.si, .int .i64 m.st, .int .u8 m.sc, .slice none 0 0, .slice none 0 0] _ j u hu) (by intro u hu; exact (List.all_eq_true (p := fun u : Value => u.oneCell')).1 rfl u hu) (by unfold maxLen; omega) (by omega) ?_; intro v' ob' w2 hRow2 hG2 hOB2; obtain ⟨a2, c2, rfl, k1, k2, ha2⟩ := hRow2.shape; have HRow2 := Lib.hid hRow2; have HOB2 := Lib.hid hOB2; have HG2 := Lib.hid hG2; have hb2 := grown_other hG2 (HA3.out.blk.alloc _) HA3.out.no; have HB2 := Lib.hid hb2; have o0 : w2.cell? ⟨g, 0, none⟩ = some (.slice a n c) := cell_at hb2 0; have z0 := free_at hb2 0; clear hRow2 hG2 hOB2 hb2 k1 k2 ha2))
  all_goals
    go_wp2_with fail
    go_ret
    have hog : ob' ≠ g := by
      rcases HOB2.out with e | e
      · exact fun e2 => HA3.out.no (by rw [e, e2])
      · have := HA3.out.blk.lt
        simp at e
        omega
    have hobb : ob' ≠ b := by
      rcases HOB2.out with e | e
      · exact fun e2 => HA3.out.nb (by rw [e, e2])
      · have := HA3.out.map.lt
        simp at e
        omega
    refine ⟨rfl, ob', _, ⟨Blk.set (h := HB2.out) 0 _, ?_, ?_, HA3.out.ne, by simpa using hog, by simpa using hobb⟩, ?_, ?_⟩
    · have := HRow2.out.congr (w' := w2.setCell ⟨g, 0, none⟩ (.slice a2 (n + 1) c2)) (fun g' e => by obtain rfl := Option.some.inj e; exact heap_setCell_ne _ _ _ _ hog)
      rw [List.length_append, ← HNN.out, msL_append, msL_one]
      exact this
    · have q1 := grown_other (k := b) HG2.out ((Below.heap_alloc W3 _ b HA3.out.map.lt).trans (Array.getElem?_eq_getElem HA3.out.map.lt)) HA3.out.nb
      exact HA3.out.map.congr ((heap_setCell_ne _ _ _ _ (fun e => HA3.out.ne e.symm)).trans (q1.trans (Array.getElem?_eq_getElem HA3.out.map.lt).symm))
    · exact ((HF3.out.alloc _).grown HG2.out (fun k hk => .inl (by simp [hk]))).setCell ⟨g, 0, none⟩ (.inl (by simp)) _
    · rcases HOB2.out with e | e
      · exact .inl e
      · refine .inr ?_
        have := HW.out
        have := HZ3.out
        simp at e
        omega
end Go.Proofs.Ytokhdpokcfkfpaa
