/-
  A leader's desk: New, Made; which lease is over.
-/
import Derived.Test.YthmjlomlceljkaaLib2
import Derived.Test.YthmjlomlceljkaaDt
import Derived.Test.YthmjlomlceljkaaMp
import Derived.Test.YthmjlomlceljkaaBl
import Derived.Test.YthmjlomlceljkaaGr1
import Derived.OwnWalk
import Derived.BigQuiet
import Derived.BigRegion
import Derived.Deep.QuietTactic
import Derived.IntWalk
import Derived.Lib.Small
import Derived.RegionTactic
import Derived.Deep.RegionHeld3
import Derived.OrdersHeld
import Derived.Lib.Hide
import Derived.Deep.DeepCutAuto
import Derived.WalkMore
import Derived.WalkSpells
import Derived.Laws.OwnMore
namespace Go.Proofs.Ythmjlomlceljkaa
open Go.RowKit
set_option linter.unusedSimpArgs false
set_option linter.unusedVariables false

structure LeE where
  id : Int
  tenant : Int
  shaper : Int
  epoch : Int
  number : Int
  size : Int
  spent : Int
def LeE.cells (e : LeE) : List Value := [.int .i64 e.id, .int .i64 e.tenant, .int .i64 e.shaper, .int .i64 e.epoch, .int .i64 e.number, .int .i64 e.size, .int .i64 e.spent]
def LeE.ok (e : LeE) : Prop := (-9223372036854775808 ≤ e.id ∧ e.id ≤ 9223372036854775807) ∧ (-9223372036854775808 ≤ e.tenant ∧ e.tenant ≤ 9223372036854775807) ∧ (-9223372036854775808 ≤ e.shaper ∧ e.shaper ≤ 9223372036854775807) ∧ (-9223372036854775808 ≤ e.epoch ∧ e.epoch ≤ 9223372036854775807) ∧ (-9223372036854775808 ≤ e.number ∧ e.number ≤ 9223372036854775807) ∧ (-9223372036854775808 ≤ e.size ∧ e.size ≤ 9223372036854775807) ∧ (-9223372036854775808 ≤ e.spent ∧ e.spent ≤ 9223372036854775807)
structure LeIn (W : World) (a : Option Addr) (len cap b o : Nat) (E : Nat → LeE) : Prop where
  le : len ≤ cap
  max : cap ≤ maxLen
  at_ : 0 < len → a = some ⟨b, o, none⟩ ∧ b < W.heap.size
  cell : ∀ k, k < len → W.cell? ⟨b, o + k * 7, none⟩ = some (.int .i64 (E k).id) ∧ W.cell? ⟨b, o + k * 7 + 1, none⟩ = some (.int .i64 (E k).tenant) ∧ W.cell? ⟨b, o + k * 7 + 2, none⟩ = some (.int .i64 (E k).shaper) ∧ W.cell? ⟨b, o + k * 7 + 3, none⟩ = some (.int .i64 (E k).epoch) ∧ W.cell? ⟨b, o + k * 7 + 4, none⟩ = some (.int .i64 (E k).number) ∧ W.cell? ⟨b, o + k * 7 + 5, none⟩ = some (.int .i64 (E k).size) ∧ W.cell? ⟨b, o + k * 7 + 6, none⟩ = some (.int .i64 (E k).spent)
  bd : ∀ k, k < len → (E k).ok
theorem LeIn.below {W W' : World} {a : Option Addr} {len cap b o : Nat} {E : Nat → LeE} (h : LeIn W a len cap b o E) (hB : Below W.heap.size W W') : LeIn W' a len cap b o E :=
  ⟨h.le, h.max, fun hk => ⟨(h.at_ hk).1, by have := (h.at_ hk).2; have := hB.size; omega⟩, fun k hk => by
    have hb := (h.at_ (by omega)).2
    obtain ⟨c0, c1, c2, c3, c4, c5, c6⟩ := h.cell k hk
    exact ⟨(hB.cell (p := ⟨b, _, none⟩) hb).trans c0, (hB.cell (p := ⟨b, _, none⟩) hb).trans c1, (hB.cell (p := ⟨b, _, none⟩) hb).trans c2, (hB.cell (p := ⟨b, _, none⟩) hb).trans c3, (hB.cell (p := ⟨b, _, none⟩) hb).trans c4, (hB.cell (p := ⟨b, _, none⟩) hb).trans c5, (hB.cell (p := ⟨b, _, none⟩) hb).trans c6⟩, h.bd⟩
theorem le_cells (W : World) {a : Option Addr} {len cap : Nat} {xs : List Dt} (h : SliceFits Try.prog W 36 a len cap xs) : ∃ (b o : Nat) (E : Nat → LeE), LeIn W a len cap b o E := by
  have hc : Try.prog.cellsOf 36 = 7 := by kernel_rfl
  obtain ⟨b, o, h1, h2⟩ := h.spot (by rw [hc]; omega)
  have hex : ∀ k, ∃ q : LeE, k < len → (W.cell? ⟨b, o + k * 7, none⟩ = some (.int .i64 q.id) ∧ W.cell? ⟨b, o + k * 7 + 1, none⟩ = some (.int .i64 q.tenant) ∧ W.cell? ⟨b, o + k * 7 + 2, none⟩ = some (.int .i64 q.shaper) ∧ W.cell? ⟨b, o + k * 7 + 3, none⟩ = some (.int .i64 q.epoch) ∧ W.cell? ⟨b, o + k * 7 + 4, none⟩ = some (.int .i64 q.number) ∧ W.cell? ⟨b, o + k * 7 + 5, none⟩ = some (.int .i64 q.size) ∧ W.cell? ⟨b, o + k * 7 + 6, none⟩ = some (.int .i64 q.spent)) ∧ q.ok := fun k => by
    by_cases hk : k < len
    · have hl := h.length
      have hx := List.getElem?_eq_getElem (l := xs) (i := k) (by omega)
      obtain ⟨l0, hxe, hl0, hf0⟩ := (h.each k _ hx).1.agg_inv Try.underlying36
      obtain ⟨y0_0, e0_0, f0_0⟩ := hf0 0 _ rfl
      obtain ⟨y0_1, e0_1, f0_1⟩ := hf0 1 _ rfl
      obtain ⟨y0_2, e0_2, f0_2⟩ := hf0 2 _ rfl
      obtain ⟨y0_3, e0_3, f0_3⟩ := hf0 3 _ rfl
      obtain ⟨y0_4, e0_4, f0_4⟩ := hf0 4 _ rfl
      obtain ⟨y0_5, e0_5, f0_5⟩ := hf0 5 _ rfl
      obtain ⟨y0_6, e0_6, f0_6⟩ := hf0 6 _ rfl
      obtain ⟨v0_0, rfl, gv0_0⟩ := f0_0.int_inv Try.underlying3
      obtain ⟨v0_1, rfl, gv0_1⟩ := f0_1.int_inv Try.underlying3
      obtain ⟨v0_2, rfl, gv0_2⟩ := f0_2.int_inv Try.underlying3
      obtain ⟨v0_3, rfl, gv0_3⟩ := f0_3.int_inv Try.underlying3
      obtain ⟨v0_4, rfl, gv0_4⟩ := f0_4.int_inv Try.underlying3
      obtain ⟨v0_5, rfl, gv0_5⟩ := f0_5.int_inv Try.underlying3
      obtain ⟨v0_6, rfl, gv0_6⟩ := f0_6.int_inv Try.underlying3
      match l0, hl0 with
      | [z0_0, z0_1, z0_2, z0_3, z0_4, z0_5, z0_6], _ =>
        obtain rfl : z0_0 = _ := by simpa using e0_0
        obtain rfl : z0_1 = _ := by simpa using e0_1
        obtain rfl : z0_2 = _ := by simpa using e0_2
        obtain rfl : z0_3 = _ := by simpa using e0_3
        obtain rfl : z0_4 = _ := by simpa using e0_4
        obtain rfl : z0_5 = _ := by simpa using e0_5
        obtain rfl : z0_6 = _ := by simpa using e0_6
        have hcell := h2 k _ hx
        rw [hxe, hc] at hcell
        exact ⟨⟨v0_0, v0_1, v0_2, v0_3, v0_4, v0_5, v0_6⟩, fun _ => ⟨⟨hcell 0 _ rfl, by have := hcell 1 _ rfl; rwa [← Nat.add_assoc] at this, by have := hcell 2 _ rfl; rwa [← Nat.add_assoc] at this, by have := hcell 3 _ rfl; rwa [← Nat.add_assoc] at this, by have := hcell 4 _ rfl; rwa [← Nat.add_assoc] at this, by have := hcell 5 _ rfl; rwa [← Nat.add_assoc] at this, by have := hcell 6 _ rfl; rwa [← Nat.add_assoc] at this⟩, gv0_0, gv0_1, gv0_2, gv0_3, gv0_4, gv0_5, gv0_6⟩⟩
    · exact ⟨⟨0, 0, 0, 0, 0, 0, 0⟩, fun h => absurd h hk⟩
  have hg := fun k => Classical.choose_spec (hex k)
  exact ⟨b, o, fun k => Classical.choose (hex k), h.le, h.max, h1, fun k hk => (hg k hk).1, fun k hk => (hg k hk).2⟩
def leL (E : Nat → LeE) (n : Nat) : List Value := (List.range n).flatMap fun k => (E k).cells
theorem leL_succ (E : Nat → LeE) (n : Nat) : leL E (n + 1) = leL E n ++ (E n).cells := by simp [leL, List.range_succ, List.flatMap_append]
theorem leL_len (E : Nat → LeE) : ∀ n : Nat, (leL E n).length = n * 7
  | 0 => by simp [leL]
  | n + 1 => by rw [leL_succ, List.length_append, leL_len E n]; simp [LeE.cells]; omega
theorem leL_congr {E E' : Nat → LeE} : ∀ {n : Nat}, (∀ k, k < n → E k = E' k) → leL E n = leL E' n
  | 0, _ => rfl
  | n + 1, h => by rw [leL_succ, leL_succ, leL_congr (fun k hk => h k (by omega)), h n (by omega)]
theorem leL_at (E : Nat → LeE) : ∀ (n k j : Nat), k < n → j < 7 → (leL E n)[k * 7 + j]? = (E k).cells[j]?
  | 0, _, _, h, _ => by omega
  | n + 1, k, j, h, hj => by
    have hl := leL_len E n
    rw [leL_succ]
    by_cases hk : k < n
    · rw [List.getElem?_append_left (by omega)]
      exact leL_at E n k j hk hj
    · obtain rfl : k = n := by omega
      rw [List.getElem?_append_right (by omega), hl]
      congr 1
      omega
theorem le_row {w : World} {v : Value} {ob : Option Nat} {E : Nat → LeE} {n : Nat} (h : Row w v ob 36 7 n (leL E n)) (hE : ∀ k, k < n → (E k).ok) :
    ∃ a cap, v = .slice a n cap ∧ LeIn w a n cap (ob.getD 0) 0 E := by
  obtain ⟨a, cap, rfl, h1, h2, h3⟩ := h.shape
  refine ⟨a, cap, rfl, h1, h2, fun hk => ?_, fun k hk => ?_, hE⟩
  · obtain ⟨g, hg, _⟩ := h.cell 0 (by omega)
    subst hg
    exact ⟨h3, h.lt⟩
  · have hh : ∀ j, j < 7 → w.cell? ⟨ob.getD 0, 0 + k * 7 + j, none⟩ = (E k).cells[j]? := fun j hj => by
      obtain ⟨g, hg, hc, _⟩ := h.cell (k * 7 + j) (by omega)
      subst hg
      rw [Option.getD_some, Nat.zero_add, hc, leL_at E n k j hk hj]
    exact ⟨hh 0 (by omega), hh 1 (by omega), hh 2 (by omega), hh 3 (by omega), hh 4 (by omega), hh 5 (by omega), hh 6 (by omega)⟩

/-- a desk's two blocks: elected, the greatest now, how long a lease lasts; when leases were made -/
def encI (x : Int) : Value := Value.int .i64 x
structure DkIn (W : World) (g b : Nat) (el now la : Int) (M : Int → Option Int) : Prop where
  blk : Blk W g #[.int .i64 el, .int .i64 now, .int .i64 la, .map (some b)] 73
  map : MapO W b (fun x : Int => Value.int .i64 x) (fun x => (M x).map encI)
  ne : g ≠ b
theorem DkIn.below {W W' : World} {g b : Nat} {el now la : Int} {M : Int → Option Int} (h : DkIn W g b el now la M) (hB : Below W.heap.size W W') : DkIn W' g b el now la M := ⟨h.blk.step hB, h.map.step hB, h.ne⟩
theorem key_i : KeyK Try.prog 3 (.int .i64) fun x : Int => Value.int .i64 x := key_int Try.underlying3
theorem zero_i (w : World) : (zeroValue 3).run Try.prog w = .ok (.int .i64 0) w := by
  have h : (Try.prog.info? 3).map (fun i => i.zero) = some (some (.int .i64 0)) := by kernel_rfl
  unfold zeroValue
  obtain ⟨i, hi, hz⟩ : ∃ i, Try.prog.info? 3 = some i ∧ i.zero = some (.int .i64 0) := by
    cases hi : Try.prog.info? 3 with
    | none => rw [hi] at h; cases h
    | some i => rw [hi] at h; exact ⟨i, rfl, by simpa using h⟩
  simp [typeInfo, hi, hz]
theorem run_makeMap_none {P : Program} {t k e : TypeId} (ht : P.underlying t = some (.map k e)) (w : World) : (Instr.makeMap t none).run P w = .ok (.map (some w.heap.size)) (w.alloc (.map #[] 0)) := by
  simp only [Instr.makeMap, Sem.run_bind, run_underlying ht, Result.andThen_ok]
  rfl
theorem dk_look {W : World} {g b : Nat} {el now la : Int} {M : Int → Option Int} (h : DkIn W g b el now la M) (x : Int) :
    (Instr.lookup 71 (.map (some b)) (.int .i64 x) true).run Try.prog W = .ok (.tuple #[.int .i64 ((M x).getD 0), .bool (M x).isSome]) W := by
  have := h.map.look_ok key_i Try.underlying71 (zero_i W) x
  cases hm : M x with
  | none => simpa [hm] using this
  | some t => simpa [hm, encI] using this

set_option maxRecDepth 100000 in
set_option maxHeartbeats 1000000 in
theorem gnew_ok (ticks rho now : Int) (h0 : 1 ≤ ticks) (h1 : ticks ≤ 1099511627776) (r0 : 0 ≤ rho) (r1 : rho ≤ 200) (n0 : 0 ≤ now) (w : World) :
    Calls Try.prog 10 #[.int .i64 ticks, .int .i64 rho, .int .i64 now] w fun e w' => ∃ g b, e = .returned (.tuple #[.pointer (some ⟨g, 0, none⟩), .int .i64 0]) ∧ DkIn w' g b now now (overS ticks rho) (fun _ => none) ∧ w.heap.size ≤ g ∧ w.heap.size ≤ b ∧ Below w.heap.size w w' := by
  have OV := Lib.hid (fun W => over_any ticks rho W)
  obtain ⟨la, hla⟩ : ∃ la, la = overS ticks rho := ⟨_, rfl⟩
  rw [← hla] at OV ⊢
  clear hla
  have hmm := fun w => run_makeMap_none (P := Try.prog) Try.underlying71 w
  go_enter Try.func10, Try.ntmps10
  go_wp2_with fail
  go_at_call 30
  refine Calls.mono (OV.out _) ?_
  rintro e w1 ⟨rfl, hB1⟩
  have HB1 := Lib.hid hB1
  clear hB1 OV
  go_wp2_with fail
  refine bodyPost_ret (v := .tuple #[.pointer (some ⟨w1.heap.size + 1, 0, none⟩), .int .i64 0]) (by simp [results, Try.results10, go_sem]) rfl ⟨w1.heap.size + 1, w1.heap.size, rfl, ⟨?_, ?_, by omega⟩, by have := HB1.out.size; omega, HB1.out.size, ?_⟩
  · have := blk_new (w1.alloc (.map #[] 0)) #[.int .i64 now, .int .i64 now, .int .i64 la, .map (some w1.heap.size)] 73
    rw [World.size_alloc] at this
    exact this
  · exact ((MapO.new (κ := Int) (enc := fun x : Int => Value.int .i64 x) w1).congr (Below.heap_alloc _ _ _ (by simp)))
  · exact (HB1.out.alloc HB1.out.size _).alloc (by have := HB1.out.size; simp; omega) _

def madeM (M : Int → Option Int) (lease now : Int) (y : Int) : Option Int := if y = lease then (if (M lease).isSome then M lease else some now) else M y
set_option maxRecDepth 100000 in
set_option maxHeartbeats 2000000 in
theorem made_ok (lease t : Int) (g b : Nat) (el now la : Int) (M : Int → Option Int) (w : World) (hd : DkIn w g b el now la M) (h0 : 1 ≤ lease) (h1 : el ≤ t) :
    Calls Try.prog 12 #[.pointer (some ⟨g, 0, none⟩), .int .i64 lease, .int .i64 t] w fun e w' => e = .returned (.int .i64 0) ∧ DkIn w' g b el (max now t) la (madeM M lease t) ∧ Fr [g, b] w w' := by
  have c0 : w.cell? ⟨g, 0, none⟩ = some (.int .i64 el) := cell_at hd.blk 0
  have c1 : w.cell? ⟨g, 1, none⟩ = some (.int .i64 now) := cell_at hd.blk 1
  have c3 : w.cell? ⟨g, 3, none⟩ = some (.map (some b)) := cell_at hd.blk 3
  have z1 := free_at hd.blk 1
  have hl := hd.blk.lt
  obtain ⟨N, hN⟩ : ∃ N, N = max now t := ⟨_, rfl⟩
  have e1 : (if now < t then t else now) = N := by rw [hN]; split <;> omega
  have e2 : max now t = N := hN.symm
  rw [← hN]
  obtain ⟨W1, hW1⟩ : ∃ W1, W1 = w.setCell ⟨g, 1, none⟩ (.int .i64 N) := ⟨_, rfl⟩
  have hd1 : DkIn W1 g b el N la M := ⟨by rw [hW1]; exact hd.blk.set 1 _, hd.map.congr (by rw [hW1]; exact heap_setCell_ne _ _ _ _ (fun e => hd.ne e.symm)), hd.ne⟩
  have hf1 : Fr [g, b] w W1 := by rw [hW1]; exact (Fr.refl _ _).setCell ⟨g, 1, none⟩ (.inl (by simp)) _
  have hlk := dk_look hd1 lease
  have a3 : W1.cell? ⟨g, 3, none⟩ = some (.map (some b)) := cell_at hd1.blk 3
  have hl1 := hd1.blk.lt
  obtain ⟨B, hB⟩ : ∃ B, B = (M lease).isSome := ⟨_, rfl⟩
  obtain ⟨y, hy⟩ : ∃ y, y = (M lease).getD 0 := ⟨_, rfl⟩
  rw [← hB, ← hy] at hlk
  obtain ⟨W2, hup, hm2, hf2, hz2⟩ := hd1.map.put key_i Try.underlying71 lease (.int .i64 t)
  have HD1 := Lib.hid hd1
  have HF1 := Lib.hid hf1
  have HM2 := Lib.hid hm2
  have HF2 := Lib.hid hf2
  have HB := Lib.hid hB
  clear hd hd1 hf1 hm2 hf2 hz2 hB hy hN
  have hnil : ∀ (W : World) (r : Option Nat), (binOp .eql 71 (.map r) (.map none)).run Try.prog W = .ok (.bool r.isNone) W := fun W r => run_eql_map_nil W _ _ _ r Try.underlying71
  cases B
  · go_enter Try.func12, Try.ntmps12
    go_upto_region 6 with fail
    rw [← hW1]
    clear hW1
    go_wp2_with fail
    go_ret
    refine ⟨rfl, ⟨(HF2.out.block g hl1 (by simpa using HD1.out.ne)).trans HD1.out.blk, HM2.out.fun_eq (fun x => ?_), HD1.out.ne⟩, HF1.out.trans HF2.out (by simp)⟩
    unfold madeM
    rw [← HB.out]
    by_cases hx : x = lease <;> simp [hx, encI]
  · clear hup
    go_enter Try.func12, Try.ntmps12
    go_upto_region 6 with fail
    rw [← hW1]
    clear hW1
    go_wp2_with fail
    go_ret
    refine ⟨rfl, ⟨HD1.out.blk, HD1.out.map.fun_eq (fun x => ?_), HD1.out.ne⟩, HF1.out⟩
    unfold madeM
    rw [← HB.out]
    by_cases hx : x = lease <;> simp [hx]

/-- is a lease over? -/
def overB (el now la : Int) (M : Int → Option Int) (id : Int) : Bool := decide (la ≤ now - (M id).getD el)
set_option maxRecDepth 100000 in
set_option maxHeartbeats 2000000 in
theorem isOver_any (id : Int) (g b : Nat) (el now la : Int) (M : Int → Option Int) (w : World) (hd : DkIn w g b el now la M) (hf : -9223372036854775808 ≤ now - (M id).getD el ∧ now - (M id).getD el ≤ 9223372036854775807) :
    Calls Try.prog 35 #[.pointer (some ⟨g, 0, none⟩), .int .i64 id] w fun e w' => e = .returned (.bool (overB el now la M id)) ∧ ∃ m, w' = w.drewN m := by
  have c0 : w.cell? ⟨g, 0, none⟩ = some (.int .i64 el) := cell_at hd.blk 0
  have c1 : w.cell? ⟨g, 1, none⟩ = some (.int .i64 now) := cell_at hd.blk 1
  have c2 : w.cell? ⟨g, 2, none⟩ = some (.int .i64 la) := cell_at hd.blk 2
  have c3 : w.cell? ⟨g, 3, none⟩ = some (.map (some b)) := cell_at hd.blk 3
  have hlk := dk_look hd id
  have hl := hd.blk.lt
  clear hd
  unfold overB
  cases hm : M id with
  | none =>
    rw [hm] at hlk hf
    simp only [Option.getD_none, Option.isSome_none] at hlk hf
    have k1 : IntKind.i64.wrap (now - el) = now - el := IntWalk.i64_in _ hf
    simp only [Option.getD_none]
    clear hf hm
    go_enter Try.func35, Try.ntmps35
    go_wp2_with fail
    go_quiet (fail)
    go_wp2
    go_ret
    exact ⟨rfl, _, rfl⟩
  | some t =>
    rw [hm] at hlk hf
    simp only [Option.getD_some, Option.isSome_some] at hlk hf
    have k1 : IntKind.i64.wrap (now - t) = now - t := IntWalk.i64_in _ hf
    simp only [Option.getD_some]
    clear hf hm
    go_enter Try.func35, Try.ntmps35
    go_wp2_with fail
    go_quiet (fail)
    go_wp2
    go_ret
    exact ⟨rfl, _, rfl⟩
end Go.Proofs.Ythmjlomlceljkaa
