/-
  A client's session: the program's map of sessions, the document's search.
-/
import Derived.Test.YtnaoajdbopminaaSe1
namespace Go.Proofs.Ytnaoajdbopminaa
open Go.RowKit
set_option linter.unusedSimpArgs false
set_option linter.unusedVariables false

theorem key_client : KeyK Try.prog 139 (.struct #[⟨"number", 3, 0, false, "", "weir/sessions", 0⟩]) fun c : Int => Value.agg #[.int .i64 c] where
  under := by kernel_rfl
  check em x w := by
    show (Instr.checkKey em (9998 + 1 + 1) _ _).run _ w = _
    have hu : Try.prog.underlying 139 = some (.struct #[⟨"number", 3, 0, false, "", "weir/sessions", 0⟩]) := by kernel_rfl
    have hi : Try.prog.underlying 3 = some (.int .i64) := by kernel_rfl
    have h1 : ∀ w, (Instr.checkKey em (9998 + 1) 3 (.int .i64 x)).run Try.prog w = .ok () w := fun w => by
      unfold Instr.checkKey
      simp [Sem.run_bind, run_underlying hi, Result.andThen]
    have h2 : ∀ w, (part 3 #[.int .i64 x] 0).run Try.prog w = .ok (.int .i64 x) w := fun w => by simp [part, go_sem]
    unfold Instr.checkKey
    simp only [Sem.run_bind, run_underlying hu, Result.andThen_ok]
    simp [h1, h2, Result.andThen]
  eq x y w := by
    show (Op.equalIn (9998 + 1 + 1) _ _ _).run _ w = _
    have hf : Try.prog.fieldsOf 139 = #[⟨"number", 3, 0, false, "", "weir/sessions", 0⟩] := by kernel_rfl
    rw [run_equalIn_struct w _ _ _ _ (by kernel_rfl) (by kernel_rfl), hf]
    have e1 : ∀ a b : Int, (Op.equalIn (9998 + 1) 3 (.int .i64 a) (.int .i64 b)).run Try.prog w = .ok (a == b) w := fun a b => run_equalIn_int w 9998 _ .i64 .i64 a b (by kernel_rfl)
    cases h1 : x == y
    · have : ¬ x = y := by simpa using h1
      simp [Op.eqFields, part, e1, h1, go_sem, this]
    · have : x = y := by simpa using h1
      simp [Op.eqFields, part, e1, go_sem, this]
  now := .inr fun _ _ => rfl
  bits x := by
    show Instr.sameBits (9998 + 1 + 1) _ _ = true
    simp [Instr.sameBits]

/-- the last one of a client -/
def lastI (S : Nat → SeE) (c : Int) : Nat → Option Nat
  | 0 => none
  | k + 1 => if c = (S k).client then some k else lastI S c k
def SeE.agg (x : SeE) : Value := .agg #[.int .i64 x.client, .int .i64 x.number, .int .i64 x.e, .int .i64 x.rate, .int .i64 x.burst, .int .i64 x.lease, .int .i64 x.size]
def zeroE : SeE := ⟨0, 0, 0, 0, 0, 0, 0⟩
def ofE (S : Nat → SeE) (c : Int) (n : Nat) : SeE := ((lastI S c n).map S).getD zeroE
theorem lastI_some {S : Nat → SeE} {c : Int} : ∀ {n j : Nat}, lastI S c n = some j → j < n ∧ (S j).client = c
  | 0, j, h => by simp [lastI] at h
  | n + 1, j, h => by
    unfold lastI at h
    by_cases hc : c = (S n).client
    · rw [if_pos hc] at h; obtain rfl := Option.some.inj h; exact ⟨by omega, hc.symm⟩
    · rw [if_neg hc] at h
      have := lastI_some h
      exact ⟨by omega, this.2⟩
theorem lastI_none {S : Nat → SeE} {c : Int} : ∀ {n : Nat}, lastI S c n = none → ∀ j, j < n → (S j).client ≠ c
  | 0, _, j, h => by omega
  | n + 1, h, j, hj => by
    unfold lastI at h
    by_cases hc : c = (S n).client
    · rw [if_pos hc] at h; cases h
    · rw [if_neg hc] at h
      by_cases hjn : j = n
      · subst hjn; exact fun e => hc e.symm
      · exact lastI_none h j (by omega)
/-- the first one of a client -/
def findS (S : Nat → SeE) (c : Int) : Nat → Option Nat
  | 0 => none
  | k + 1 => match findS S c k with
    | some j => some j
    | none => if (S k).client = c then some k else none
theorem findS_some {S : Nat → SeE} {c : Int} : ∀ {n j : Nat}, findS S c n = some j → j < n ∧ (S j).client = c
  | 0, j, h => by simp [findS] at h
  | n + 1, j, h => by
    unfold findS at h
    cases hf : findS S c n with
    | some i =>
      rw [hf] at h
      obtain rfl := Option.some.inj h
      have := findS_some hf
      exact ⟨by omega, this.2⟩
    | none =>
      rw [hf] at h
      simp only at h
      by_cases hc : (S n).client = c
      · rw [if_pos hc] at h; obtain rfl := Option.some.inj h; exact ⟨by omega, hc⟩
      · rw [if_neg hc] at h; cases h
theorem findS_none {S : Nat → SeE} {c : Int} : ∀ {n : Nat}, findS S c n = none → ∀ j, j < n → (S j).client ≠ c
  | 0, _, j, h => by omega
  | n + 1, h, j, hj => by
    unfold findS at h
    cases hf : findS S c n with
    | some i => rw [hf] at h; cases h
    | none =>
      rw [hf] at h
      simp only at h
      by_cases hc : (S n).client = c
      · rw [if_pos hc] at h; cases h
      · by_cases hjn : j = n
        · subst hjn; exact hc
        · exact findS_none hf j (by omega)
theorem find_last {S : Nat → SeE} {c : Int} {n : Nat} (h : chkS S n = true) : findS S c n = lastI S c n := by
  cases hf : findS S c n with
  | none =>
    cases hl : lastI S c n with
    | none => rfl
    | some j => exact absurd (lastI_some hl).2 (findS_none hf j (lastI_some hl).1)
  | some i =>
    cases hl : lastI S c n with
    | none => exact absurd (findS_some hf).2 (lastI_none hl i (findS_some hf).1)
    | some j =>
      have h1 := findS_some hf
      have h2 := lastI_some hl
      by_cases hij : i = j
      · rw [hij]
      · rcases Nat.lt_or_gt_of_ne hij with h3 | h3
        · have := chkS_lt h h3 h2.1; omega
        · have := chkS_lt h h3 h1.1; omega

theorem zero_se (w : World) : (zeroValue 113).run Try.prog w = .ok zeroE.agg w := by
  have h : (Try.prog.info? 113).map (fun i => i.zero) = some (some zeroE.agg) := by kernel_rfl
  unfold zeroValue
  obtain ⟨i, hi, hz⟩ : ∃ i, Try.prog.info? 113 = some i ∧ i.zero = some zeroE.agg := by
    cases hi : Try.prog.info? 113 with
    | none => rw [hi] at h; cases h
    | some i => rw [hi] at h; exact ⟨i, rfl, by simpa using h⟩
  simp [typeInfo, hi, hz]

theorem run_makeMap_hint {P : Program} {t k e : TypeId} (ht : P.underlying t = some (.map k e)) (q : IntKind) (n : Int) (w : World) : (Instr.makeMap t (some (.int q n))).run P w = .ok (.map (some w.heap.size)) (w.alloc (.map #[] 0)) := by
  simp only [Instr.makeMap, Sem.run_bind, run_underlying ht, Result.andThen_ok]
  rfl

/-- the map behind k sessions -/
def mapS (S : Nat → SeE) (k : Nat) (c : Int) : Option Value := (lastI S c k).map fun j => (S j).agg
theorem mapS_succ (S : Nat → SeE) (k : Nat) (c : Int) : mapS S (k + 1) c = if c = (S k).client then some (S k).agg else mapS S k c := by
  unfold mapS
  rw [lastI]
  by_cases h : c = (S k).client
  · simp [h]
  · simp [h]
theorem mapS_of (S : Nat → SeE) (n : Nat) (c : Int) : (mapS S n c).getD zeroE.agg = (ofE S c n).agg := by
  unfold mapS ofE
  cases lastI S c n <;> rfl

set_option maxRecDepth 100000 in
set_option maxHeartbeats 8000000 in
theorem of_any (c : Int) (a : Option Addr) (n cap b o : Nat) (S : Nat → SeE) (w : World) (hs : SeIn w a n cap b o S) :
    Calls Try.prog 79 #[.slice a n cap, .int .i64 c] w fun e w' => e = .returned (ofE S c n).agg ∧ Below w.heap.size w w' := by
  have m1 := hs.le
  have m2 := hs.max
  unfold maxLen at m2
  have HS := Lib.hid hs
  have hmm := fun q x w => run_makeMap_hint (P := Try.prog) Try.underlying137 q x w
  obtain ⟨y, hy⟩ : ∃ y, y = ofE S c n := ⟨_, rfl⟩
  rw [← hy]
  have HY := Lib.hid hy
  obtain ⟨N, hN⟩ : ∃ N, N = w.heap.size := ⟨_, rfl⟩
  have HN := Lib.hid hN
  clear hs hy
  go_enter Try.func79, Try.ntmps79
  go_wp2_with fail
  obtain ⟨W1, hW1⟩ : ∃ W1, W1 = (w.alloc (.cells #[.int .i64 0, .int .i64 0, .int .i64 0, .int .i64 0, .int .i64 0, .int .i64 0, .int .i64 0] 113)).alloc (.map #[] 0) := ⟨_, rfl⟩
  have hB1 : Below w.heap.size w W1 := by rw [hW1]; exact ((Below.refl _ _).alloc (Nat.le_refl _) _).alloc (by simp) _
  have hb1 : Blk W1 N #[.int .i64 0, .int .i64 0, .int .i64 0, .int .i64 0, .int .i64 0, .int .i64 0, .int .i64 0] 113 := by rw [hW1, hN]; exact (blk_new _ _ _).alloc _
  have hM1 : MapO W1 (N + 1) (fun c : Int => Value.agg #[.int .i64 c]) (fun c => mapS S 0 c) := by
    rw [hW1, hN]
    have := MapO.new (κ := Int) (enc := fun c : Int => Value.agg #[.int .i64 c]) (w.alloc (.cells #[.int .i64 0, .int .i64 0, .int .i64 0, .int .i64 0, .int .i64 0, .int .i64 0, .int .i64 0] 113))
    rw [World.size_alloc] at this
    exact this
  have HB1 := Lib.hid hB1
  have HQ1 := Lib.hid hb1
  have HM1 := Lib.hid hM1
  rw [← hN, ← hW1]
  clear hW1 hB1 hb1 hM1 hN hmm
  go_loopw [13] (fun i wr => ∃ k : Nat, k ≤ n ∧ i = .int .i64 k ∧ MapO wr (N + 1) (fun c : Int => Value.agg #[.int .i64 c]) (fun c => mapS S k c) ∧ Blk wr N #[.int .i64 0, .int .i64 0, .int .i64 0, .int .i64 0, .int .i64 0, .int .i64 0, .int .i64 0] 113 ∧ Below w.heap.size w wr) (fun i _ => n - (intOf i).toNat)
  case atStart => exact ⟨0, Nat.zero_le _, rfl, HM1.out, HQ1.out, HB1.out⟩
  case round =>
    obtain ⟨k, hk, rfl, hM, hQ, hB⟩ := hrel
    by_cases hlt : k < n
    · have hsr := HS.out.below hB
      obtain ⟨e0, e1⟩ := hsr.at_ (by omega)
      subst e0
      obtain ⟨c0, c1, c2, c3, c4, c5, c6⟩ := hsr.cell k hlt
      obtain ⟨x, hx⟩ : ∃ x, x = S k := ⟨_, rfl⟩
      rw [← hx] at c0 c1 c2 c3 c4 c5 c6
      have HX := Lib.hid hx
      obtain ⟨o', ho'⟩ : ∃ o', o' = Obj.cells #[.int .i64 x.client, .int .i64 x.number, .int .i64 x.e, .int .i64 x.rate, .int .i64 x.burst, .int .i64 x.lease, .int .i64 x.size] 113 := ⟨_, rfl⟩
      have hBA : Below wr.heap.size wr (wr.alloc o') := (Below.refl _ _).alloc (Nat.le_refl _) _
      obtain ⟨W9, hup, hM9, hF9, hz9⟩ := (hM.step hBA).put key_client Try.underlying137 x.client x.agg
      have hQ9 : Blk W9 N #[.int .i64 0, .int .i64 0, .int .i64 0, .int .i64 0, .int .i64 0, .int .i64 0, .int .i64 0] 113 := (hF9.block N (by have := hQ.lt; simp; omega) (by simp)).trans (hQ.step hBA)
      have hB9 : Below w.heap.size w W9 := (hB.trans (hBA.mono hB.size)).trans (hF9.below (by have := hB.size; simp; omega) (by simp; have := HN.out; omega))
      have HM9 : Hid (MapO W9 (N + 1) (fun c : Int => Value.agg #[.int .i64 c]) (fun c => mapS S (k + 1) c)) := Lib.hid (hM9.fun_eq (fun c => by rw [mapS_succ, ← HX.out]))
      have HQ9 := Lib.hid hQ9
      have HB9 := Lib.hid hB9
      rw [ho'] at hup
      unfold SeE.agg at hup
      clear hM hQ hB hsr hx ho' hBA hM9 hF9 hz9 hQ9 hB9
      go_wp2_with fail
      go_roundw
      case rel => exact ⟨k + 1, by omega, by go_num, HM9.out, HQ9.out, HB9.out⟩
      case measure => first | (simp [intOf]; done) | (simp [intOf]; omega)
    · obtain rfl : k = n := by omega
      have hlk := hM.look key_client Try.underlying137 (zero_se wr) c
      simp only [mapS_of] at hlk
      rw [← HY.out] at hlk
      unfold SeE.agg at hlk
      have z0 := free_at hQ 0
      have z1 := free_at hQ 1
      have z2 := free_at hQ 2
      have z3 := free_at hQ 3
      have z4 := free_at hQ 4
      have z5 := free_at hQ 5
      have z6 := free_at hQ 6
      have c0 := cell_at hQ 0
      have c1 := cell_at hQ 1
      have c2 := cell_at hQ 2
      have c3 := cell_at hQ 3
      have c4 := cell_at hQ 4
      have c5 := cell_at hQ 5
      have c6 := cell_at hQ 6
      have hl := hQ.lt
      simp at c0 c1 c2 c3 c4 c5 c6
      have HQ := Lib.hid hQ
      have HB := Lib.hid hB
      clear hM hQ hB
      go_wp2_with fail
      obtain ⟨WF, hWF⟩ : ∃ WF, WF = (((((((wr.setCell ⟨N, 0, none⟩ (.int .i64 y.client)).setCell ⟨N, 1, none⟩ (.int .i64 y.number)).setCell ⟨N, 2, none⟩ (.int .i64 y.e)).setCell ⟨N, 3, none⟩ (.int .i64 y.rate)).setCell ⟨N, 4, none⟩ (.int .i64 y.burst)).setCell ⟨N, 5, none⟩ (.int .i64 y.lease)).setCell ⟨N, 6, none⟩ (.int .i64 y.size)) := ⟨_, rfl⟩
      have hNN : w.heap.size ≤ N := by rw [HN.out]; exact Nat.le_refl _
      have k1 : Blk WF N #[.int .i64 y.client, .int .i64 y.number, .int .i64 y.e, .int .i64 y.rate, .int .i64 y.burst, .int .i64 y.lease, .int .i64 y.size] 113 := by rw [hWF]; exact (((((((HQ.out.set 0 (.int .i64 y.client)).set 1 (.int .i64 y.number)).set 2 (.int .i64 y.e)).set 3 (.int .i64 y.rate)).set 4 (.int .i64 y.burst)).set 5 (.int .i64 y.lease)).set 6 (.int .i64 y.size))
      have kB : Below w.heap.size w WF := by rw [hWF]; exact (((((((HB.out.setCell (p := ⟨N, 0, none⟩) hNN _).setCell (p := ⟨N, 1, none⟩) hNN _).setCell (p := ⟨N, 2, none⟩) hNN _).setCell (p := ⟨N, 3, none⟩) hNN _).setCell (p := ⟨N, 4, none⟩) hNN _).setCell (p := ⟨N, 5, none⟩) hNN _).setCell (p := ⟨N, 6, none⟩) hNN _)
      rw [← hWF]
      have r0 : WF.cell? ⟨N, 0, none⟩ = some (.int .i64 y.client) := cell_at k1 0
      have r1 : WF.cell? ⟨N, 1, none⟩ = some (.int .i64 y.number) := cell_at k1 1
      have r2 : WF.cell? ⟨N, 2, none⟩ = some (.int .i64 y.e) := cell_at k1 2
      have r3 : WF.cell? ⟨N, 3, none⟩ = some (.int .i64 y.rate) := cell_at k1 3
      have r4 : WF.cell? ⟨N, 4, none⟩ = some (.int .i64 y.burst) := cell_at k1 4
      have r5 : WF.cell? ⟨N, 5, none⟩ = some (.int .i64 y.lease) := cell_at k1 5
      have r6 : WF.cell? ⟨N, 6, none⟩ = some (.int .i64 y.size) := cell_at k1 6
      exact bodyPost_ret (v := .agg #[.int .i64 y.client, .int .i64 y.number, .int .i64 y.e, .int .i64 y.rate, .int .i64 y.burst, .int .i64 y.lease, .int .i64 y.size]) (by simp [results, Try.results79, go_sem, r0, r1, r2, r3, r4, r5, r6]) rfl ⟨rfl, kB⟩
end Go.Proofs.Ytnaoajdbopminaa
