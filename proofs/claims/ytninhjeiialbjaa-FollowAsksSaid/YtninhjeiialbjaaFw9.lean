/-
  follow.Told; follow.Begin.
-/
import Derived.Test.YtninhjeiialbjaaFw8
namespace Go.Proofs.Ytninhjeiialbjaa
open Go.RowKit
set_option linter.unusedSimpArgs false
set_option linter.unusedVariables false

/-- n, brought into lo to hi -/
def wI (n lo hi : Int) : Int := min (max n lo) hi
theorem within_any (n lo hi : Int) (w : World) : Calls Try.prog 64 #[.int .i64 n, .int .i64 lo, .int .i64 hi] w fun e w' => e = .returned (.int .i64 (wI n lo hi)) ∧ w = w' := by
  go_enter Try.func64, Try.ntmps64
  go_wp2_with fail
  go_ret
  exact ⟨rfl, rfl⟩
theorem wI_bd (n lo hi : Int) (h : lo ≤ hi) : lo ≤ wI n lo hi ∧ wI n lo hi ≤ hi := by unfold wI; omega

/-- progress, behind an answer -/
def toldE (p : PgE) (ok : Bool) (idx : Int) : PgE :=
  if ok then ⟨p.node, max (wI p.match_ 0 1099511627776) (wI idx 0 1099511627776), max (wI p.next_ 1 1099511627777) (max (wI p.match_ 0 1099511627776) (wI idx 0 1099511627776) + 1)⟩
  else ⟨p.node, wI p.match_ 0 1099511627776, max (min (wI p.next_ 1 1099511627777 - 1) (wI idx 0 1099511627776 + 1)) (wI p.match_ 0 1099511627776 + 1)⟩

set_option maxRecDepth 100000 in
set_option maxHeartbeats 8000000 in
theorem told_any (p : PgE) (ok : Bool) (idx : Int) (w : World) : Calls Try.prog 22 #[.agg #[.int .i64 p.node, .int .i64 p.match_, .int .i64 p.next_], .bool ok, .int .i64 idx] w fun e w' => e = .returned (.agg #[.int .i64 (toldE p ok idx).node, .int .i64 (toldE p ok idx).match_, .int .i64 (toldE p ok idx).next_]) ∧ Below w.heap.size w w' := by
  obtain ⟨node, pm, px⟩ := p
  obtain ⟨m, hm⟩ : ∃ m, m = wI pm 0 1099511627776 := ⟨_, rfl⟩
  obtain ⟨x, hx⟩ : ∃ x, x = wI px 1 1099511627777 := ⟨_, rfl⟩
  obtain ⟨i, hi⟩ : ∃ i, i = wI idx 0 1099511627776 := ⟨_, rfl⟩
  have bm := wI_bd pm 0 1099511627776 (by omega)
  have bx := wI_bd px 1 1099511627777 (by omega)
  have bi := wI_bd idx 0 1099511627776 (by omega)
  have W1 := Lib.hid (fun W => within_any pm 0 1099511627776 W)
  have W2 := Lib.hid (fun W => within_any px 1 1099511627777 W)
  have W3 := Lib.hid (fun W => within_any idx 0 1099511627776 W)
  unfold toldE
  simp only
  rw [← hm] at bm W1 ⊢
  rw [← hx] at bx W2 ⊢
  rw [← hi] at bi W3 ⊢
  clear hm hx hi
  obtain ⟨bm1, bm2⟩ := bm
  obtain ⟨bx1, bx2⟩ := bx
  obtain ⟨bi1, bi2⟩ := bi
  cases ok
  · simp only [Bool.false_eq_true, if_false]
    go_enter Try.func22, Try.ntmps22
    go_wp2_with fail
    go_at_call 64
    refine (W3.out _).mono ?_
    rintro e W ⟨rfl, rfl⟩
    go_wp2_with fail
    go_at_call 64
    refine (W1.out _).mono ?_
    rintro e W ⟨rfl, rfl⟩
    go_wp2_with fail
    go_at_call 64
    refine (W2.out _).mono ?_
    rintro e W ⟨rfl, rfl⟩
    go_wp2_with fail
    exact bodyPost_ret (v := .agg #[.int .i64 node, .int .i64 (m), .int .i64 (max (min (x - 1) (i + 1)) (m + 1))]) (by simp [results, Try.results22, go_sem]) rfl ⟨rfl, ((Below.refl _ _).alloc (Nat.le_refl _) _).alloc (by simp) _⟩
  · simp only [if_true]
    go_enter Try.func22, Try.ntmps22
    go_wp2_with fail
    go_at_call 64
    refine (W3.out _).mono ?_
    rintro e W ⟨rfl, rfl⟩
    go_wp2_with fail
    go_at_call 64
    refine (W1.out _).mono ?_
    rintro e W ⟨rfl, rfl⟩
    go_wp2_with fail
    go_at_call 64
    refine (W2.out _).mono ?_
    rintro e W ⟨rfl, rfl⟩
    go_wp2_with fail
    exact bodyPost_ret (v := .agg #[.int .i64 node, .int .i64 (max m i), .int .i64 (max x (max m i + 1))]) (by simp [results, Try.results22, go_sem]) rfl ⟨rfl, ((Below.refl _ _).alloc (Nat.le_refl _) _).alloc (by simp) _⟩

theorem pgZero : (Try.prog.info? 26).map (fun i => (i.zero, i.size, i.bytes)) = some (some (.agg #[.int .i64 0, .int .i64 0, .int .i64 0]), 3, 24) := by kernel_rfl
/-- what a leader begins with -/
def begL (self nx : Int) : List Nat → List PgE
  | [] => []
  | k :: r => if (k : Int) = self then begL self nx r else ⟨k, 0, nx⟩ :: begL self nx r
def pgVs (l : List PgE) : List Value := l.flatMap PgE.cells
theorem begL_snoc (self nx : Int) : ∀ (l : List Nat) (k : Nat), begL self nx (l ++ [k]) = begL self nx l ++ if (k : Int) = self then [] else [⟨k, 0, nx⟩]
  | [], k => by simp only [List.nil_append, begL]
  | x :: r, k => by
    simp only [List.cons_append, begL]
    rw [begL_snoc self nx r k]
    split <;> simp
theorem begL_len (self nx : Int) : ∀ l : List Nat, (begL self nx l).length ≤ l.length
  | [] => Nat.le_refl _
  | k :: r => by have := begL_len self nx r; simp only [begL]; split <;> (try simp) <;> omega

theorem fw_cells (W : World) (xs : List Value) (e : TypeId) (j : Nat) (u : Value) (h : xs[j]? = some u) : (W.alloc (.cells xs.toArray e)).cell? ((⟨W.heap.size, 0, none⟩ : Addr).add j) = some u := by
  have h1 : (W.alloc (.cells xs.toArray e)).heap[W.heap.size]? = some (.cells xs.toArray e (0, 0)) := heap_alloc_new W _
  have h2 := cell_at h1 j
  have h3 : ((⟨W.heap.size, 0, none⟩ : Addr).add j) = ⟨W.heap.size, j, none⟩ := by
    simp only [Addr.add, Nat.zero_add]
    split
    · next h => rw [h]
    · rfl
  rw [h3, h2]
  simpa using h

set_option maxRecDepth 100000 in
set_option maxHeartbeats 4000000 in
theorem begin_bad (base term : Int) (a : Option Addr) (len cap b o : Nat) (E : Nat → Ent) (set self : Int) (w : World) (hs : EntsIn w a len cap b o E) (hk : rowsB base term len E = false) :
    Calls Try.prog 20 #[.agg #[.int .i64 base, .int .i64 term, .slice a len cap], .int .u8 set, .int .i64 self] w fun e w' => e = .returned (.slice none 0 0) ∧ Below w.heap.size w w' := by
  have CUR := Lib.hid (RBox.mk0 w base term (.slice a len cap))
  have CC := Lib.hid (fun W (h : Below w.heap.size w W) => check_any base term a len cap b o E W (hs.below h))
  rw [rE_bad hk] at CC
  clear hs hk
  go_enter Try.func20, Try.ntmps20
  go_wp2_with fail
  go_at_call 60
  refine (CC.out _ CUR.out.2.2).mono ?_
  rintro e W3 ⟨rfl, hW3⟩
  have C4 := Lib.hid (CUR.out.step hW3)
  clear hW3
  go_wp2_with fail
  go_ret
  exact ⟨rfl, C4.out.2.2⟩

set_option maxRecDepth 100000 in
set_option maxHeartbeats 8000000 in
theorem begin_ok (base term : Int) (a : Option Addr) (len cap b o : Nat) (E : Nat → Ent) (set self : Int) (w : World) (hs : EntsIn w a len cap b o E) (h0 : 0 ≤ set) (h1 : set ≤ 255) (hk : rowsB base term len E = true) :
    Calls Try.prog 20 #[.agg #[.int .i64 base, .int .i64 term, .slice a len cap], .int .u8 set, .int .i64 self] w fun e w' => ∃ v ob, e = .returned v ∧ Row w' v ob 26 3 (begL self (base + len + 1) (memF set 7)).length (pgVs (begL self (base + len + 1) (memF set 7))) ∧ (∀ g, ob = some g → w.heap.size ≤ g) ∧ Below w.heap.size w w' := by
  have HS := Lib.hid hs
  have CUR := Lib.hid (RBox.mk0 w base term (.slice a len cap))
  obtain ⟨b0, b1, h4, t0⟩ := rB_head hk
  have CL := Lib.hid (fun W (h : Below w.heap.size w W) => rowsLast_any base term a len cap b o E W (hs.below h))
  have CC := Lib.hid (fun W (h : Below w.heap.size w W) => check_any base term a len cap b o E W (hs.below h))
  rw [rE_ok hk] at CC
  simp only [hk, if_true] at CL
  have CM := Lib.hid (fun W => members_any set h0 h1 W)
  have hml := memF_len set 7
  obtain ⟨L, hL⟩ : ∃ L, L = memF set 7 := ⟨_, rfl⟩
  rw [← hL] at CM hml ⊢
  obtain ⟨lt, hlt⟩ : ∃ lt, lt = lastT term len E := ⟨_, rfl⟩
  rw [← hlt] at CL
  obtain ⟨la, hla⟩ : ∃ la, la = base + (len : Int) := ⟨_, rfl⟩
  rw [← hla] at CL ⊢
  have hla1 : 0 ≤ la := by omega
  have hla2 : la ≤ 1099511627776 := by omega
  obtain ⟨m, hm⟩ : ∃ m, m = L.length := ⟨_, rfl⟩
  have HM := Lib.hid hm
  rw [← hm] at hml CM
  obtain ⟨i0, hi, hz0, hz1, hz2⟩ := info_parts pgZero
  have HI := Lib.hid hi
  have HZ0 := Lib.hid hz0
  have HZ1 := Lib.hid hz1
  have HZ2 := Lib.hid hz2
  clear hi hz0 hz1 hz2 hs hk hL hlt hla hm
  go_enter Try.func20, Try.ntmps20
  go_wp2_with fail
  go_at_call 60
  refine (CC.out _ CUR.out.2.2).mono ?_
  rintro e W ⟨rfl, hW⟩
  have C2 := Lib.hid (CUR.out.step hW)
  clear hW
  obtain ⟨⟨f0, f1, f2⟩, f3, _⟩ := id C2.out
  go_wp2_with fail
  go_at_call 61
  refine (CL.out _ C2.out.2.2).mono ?_
  rintro e W2 ⟨rfl, hW2⟩
  have C3 := Lib.hid (C2.out.step hW2)
  clear hW2 f0 f1 f2 f3
  go_wp2_with fail
  go_at_call 62
  refine (CM.out _).mono ?_
  rintro e W3 ⟨v, ob, rfl, hrow, _, hW3⟩
  obtain ⟨va, vc, rfl, hv1, hv2, hva⟩ := hrow.shape
  unfold maxLen at hv2
  have HVA := Lib.hid hva
  have HNR := Lib.hid hrow
  have C4 := Lib.hid (C3.out.step hW3)
  clear hW3 hrow hva
  obtain ⟨B1, hB1⟩ : ∃ B1, B1 = W3.heap.size := ⟨_, rfl⟩
  have HB1 := Lib.hid hB1
  clear hB1
  go_wp2_with fail
  go_loopw [9, 23] (fun vm i wr => ∃ (k : Nat) (om : Option Nat), k ≤ m ∧ i = .int .i64 k ∧ Row wr vm om 26 3 (begL self (la + 1) (L.take k)).length (pgVs (begL self (la + 1) (L.take k))) ∧ (∀ g, om = some g → B1 ≤ g) ∧ Below B1 W3 wr) (fun _ i _ => m - (intOf i).toNat)
  case atStart => exact ⟨0, none, Nat.zero_le _, rfl, Row.nil _ _ _, (fun _ h => by cases h), by rw [HB1.out]; exact Below.refl _ _⟩
  case round =>
    obtain ⟨k, om, hk, rfl, hrm, hgm, hBm⟩ := hrel
    have HRM := Lib.hid hrm
    have HGM := Lib.hid hgm
    have HBM := Lib.hid hBm
    clear hrm hgm hBm
    by_cases hlt : k < m
    · have hNk := HNR.out.congr (w' := wr) fun g hg => HBM.out.block g (by rw [HB1.out]; subst hg; exact HNR.out.lt)
      obtain ⟨nd, hnd⟩ : ∃ nd, L[k]? = some nd := ⟨_, List.getElem?_eq_getElem (by rw [← HM.out]; exact hlt)⟩
      obtain ⟨gn, hgn, hcn, _⟩ := hNk.cell k (by omega)
      rw [intsV, List.getElem?_map, hnd] at hcn
      have hcn' : wr.cell? ⟨gn, k, none⟩ = some (.int .i64 ((nd : Nat) : Int)) := hcn
      have hva := HVA.out
      rw [hgn] at hva
      obtain rfl : va = some ⟨gn, 0, none⟩ := hva
      have hgl : gn < wr.heap.size := by rw [hgn] at hNk; exact hNk.lt
      have hbl : begL self (la + 1) (L.take (k + 1)) = begL self (la + 1) (L.take k) ++ if (nd : Int) = self then [] else [⟨nd, 0, la + 1⟩] := by
        rw [List.take_add_one, hnd]
        exact begL_snoc _ _ _ _
      have hcnt : (begL self (la + 1) (L.take k)).length ≤ 7 := by have h7 := begL_len self (la + 1) (L.take k); rw [List.length_take] at h7; omega
      obtain ⟨bl, hbl2⟩ : ∃ bl, bl = begL self (la + 1) (L.take k) := ⟨_, rfl⟩
      rw [← hbl2] at hbl hcnt HRM
      have HBL := Lib.hid hbl
      clear hNk hgn hcn hbl hbl2
      by_cases hse : (nd : Int) = self
      · have d1 : (((nd : Nat) : Int) != self) = false := by simpa using hse
        have hbe := HBL.out
        rw [if_pos hse, List.append_nil] at hbe
        have HBE := Lib.hid hbe
        clear hse hbe
        go_wp2_with fail
        go_roundw
        case rel => exact ⟨k + 1, om, by omega, by go_num, by rw [HBE.out]; exact HRM.out, HGM.out, HBM.out⟩
        case measure => first | (simp [intOf]; done) | (simp [intOf]; omega)
      · have d1 : (((nd : Nat) : Int) != self) = true := by simpa using hse
        have hbe := HBL.out
        rw [if_neg hse] at hbe
        have HBE := Lib.hid hbe
        clear hse hbe
        go_wp2_with (at_builtin; refine wpList_append_row _ rfl (.tmp 30) (.tmp 35) 27 rfl 26 i0 _ 3 24 Try.underlying27 HI.out HZ0.out HZ1.out HZ2.out rfl (by decide) _ om bl.length (pgVs bl) rfl (HRM.out.alloc _) ⟨wr.heap.size, 0, none⟩ 1 1 [.int .i64 ((nd : Nat) : Int), .int .i64 0, .int .i64 (la + 1)] rfl (by decide) rfl ?c1 ?c2 ?c3 ?c4 ?_)
        case c1 => exact fw_cells wr _ _
        case c2 => intro u hu; exact (List.all_eq_true (p := fun u : Value => u.oneCell')).1 rfl u hu
        case c3 => unfold maxLen; omega
        case c4 => omega
        intro v5 ob5 W5 hrow5 hg5 hob5
        have HR5 := Lib.hid hrow5
        have HG5 := Lib.hid hg5
        have HO5 := Lib.hid hob5
        clear hrow5 hg5 hob5
        go_wp2_with fail
        go_roundw
        case rel =>
          have hsm := HBM.out.size
          have hb1 := HB1.out
          refine ⟨k + 1, some ob5, by omega, by go_num, ?_, ?_, (HBM.out.alloc (by omega) _).grown HG5.out (by simp; omega) (fun g e => HGM.out g e)⟩
          · rw [HBE.out, List.length_append]
            unfold pgVs
            rw [List.flatMap_append]
            exact HR5.out
          · intro g e
            obtain rfl := Option.some.inj e
            rcases HO5.out with h | h
            · exact HGM.out _ h
            · first | omega | (simp at h; omega)
        case measure => first | (simp [intOf]; done) | (simp [intOf]; omega)
    · obtain rfl : k = m := by omega
      have hrm := HRM.out
      rw [List.take_of_length_le (by rw [HM.out]; omega)] at hrm
      have HRF := Lib.hid hrm
      have hb9 := HB1.out
      have hs9 := C4.out.2.2.size
      clear hrm
      go_wp2_with fail
      go_ret
      exact ⟨_, om, rfl, HRF.out, fun g hg => by have := HGM.out g hg; omega, C4.out.2.2.trans (HBM.out.mono (by omega))⟩
end Go.Proofs.Ytninhjeiialbjaa
