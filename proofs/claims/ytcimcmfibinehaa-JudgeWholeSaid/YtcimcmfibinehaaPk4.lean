/-
  weirref23.Flow: the document's own answer of whose a packet is.
-/
import Derived.Deep.QuietTactic
import Derived.BigRegion
import Derived.BigQuiet
import Derived.RegionTactic
import Derived.Test.YtcimcmfibinehaaPk3
namespace Go.Proofs.Ytcimcmfibinehaa
open Go.RowKit
set_option linter.unusedSimpArgs false
set_option linter.unusedVariables false

theorem p_one_at (W : World) (x : Value) (e : TypeId) : ∀ (j : Nat) (u : Value), [x][j]? = some u → (W.alloc (.cells #[x] e)).cell? ((⟨W.heap.size, 0, none⟩ : Addr).add j) = some u := by
  intro j u h
  match j with
  | 0 =>
    simp only [List.getElem?_cons_zero] at h
    rw [show ((⟨W.heap.size, 0, none⟩ : Addr).add 0) = ⟨W.heap.size, 0, none⟩ by rfl, cell_at (heap_alloc_new W _) 0]
    simpa using h
  | j + 1 => simp at h
def ownV (l : List Nat) : List Value := l.map fun x => .int .i64 (x : Nat)
theorem infoI64 : (Try.prog.info? 3).map (fun i => (i.zero, i.size, i.bytes)) = some (some (.int .i64 0), 1, 8) := by kernel_rfl

set_option maxRecDepth 100000 in
set_option maxHeartbeats 8000000 in
theorem rflow_any (num t c : Int) (la : Option Addr) (ln lc : Nat) (a : Option Addr) (len cap b o : Nat) (E : Nat → FlowE) (w : World) (hs : FlowIn w a len cap b o E) (h60 : len ≤ 60) :
    Calls Try.prog 24 #[.slice a len cap, .agg #[.int .i64 num, .int .i64 t, .int .i64 c, .slice la ln lc]] w fun e w' => e = .returned (.tuple #[.int .i64 (flowK t c E len), .int .i64 (flowE t c E len)]) ∧ Below w.heap.size w w' := by
  obtain ⟨i0, hi, hz0, hz1, hz2⟩ := info_parts infoI64
  have HI := Lib.hid hi
  have HZ0 := Lib.hid hz0
  have HZ1 := Lib.hid hz1
  have HZ2 := Lib.hid hz2
  have hm := hs.max
  have hl := hs.le
  unfold maxLen at hm
  have HS := Lib.hid hs
  have HKF : Hid (flowK t c E len = if (plcs t E len).length = 0 then 0 else if c < 0 then 0 else (((plcs t E len).getD (c % ((plcs t E len).length : Int)).toNat 0 : Nat) : Int)) := Lib.hid rfl
  have HEF : Hid (flowE t c E len = if (plcs t E len).length = 0 then 161 else if c < 0 then 2 else 0) := Lib.hid rfl
  obtain ⟨kf, hkf⟩ : ∃ kf, kf = flowK t c E len := ⟨_, rfl⟩
  obtain ⟨ef, hef⟩ : ∃ ef, ef = flowE t c E len := ⟨_, rfl⟩
  rw [← hkf] at HKF ⊢
  rw [← hef] at HEF ⊢
  clear hs hi hz0 hz1 hz2 hkf hef
  obtain ⟨PB, hPB⟩ : ∃ PB, PB = Obj.cells #[.int .i64 num, .int .i64 t, .int .i64 c, .slice la ln lc] 29 (0, 0) := ⟨_, rfl⟩
  have HP0 : Hid (Blk (w.alloc PB) w.heap.size #[.int .i64 num, .int .i64 t, .int .i64 c, .slice la ln lc] 29) := Lib.hid (by rw [hPB]; exact heap_alloc_new w _)
  have HB0 : Hid (Below w.heap.size w (w.alloc PB)) := Lib.hid ((Below.refl _ _).alloc (Nat.le_refl _) _)
  subst hPB
  go_enter Try.func24, Try.ntmps24
  go_wp2_with fail
  go_loopw [6, 7] (fun v i wr => ∃ (k : Nat) (ob : Option Nat), k ≤ len ∧ i = .int .i64 k ∧ Row wr v ob 3 1 (plcs t E k).length (ownV (plcs t E k)) ∧ (∀ g, ob = some g → w.heap.size < g) ∧ Blk wr w.heap.size #[.int .i64 num, .int .i64 t, .int .i64 c, .slice la ln lc] 29 ∧ Below w.heap.size w wr) (fun _ i _ => len - (intOf i).toNat)
  case atStart => exact ⟨0, none, Nat.zero_le _, rfl, Row.nil _ _ _, (fun _ h => by cases h), HP0.out, HB0.out⟩
  case round =>
    obtain ⟨k, ob, hk, rfl, hr, hob, hP, hB⟩ := hrel
    have p1 : wr.cell? ⟨w.heap.size, 1, none⟩ = some (.int .i64 t) := cell_at hP 1
    have p2 : wr.cell? ⟨w.heap.size, 2, none⟩ = some (.int .i64 c) := cell_at hP 2
    have hPl := hP.lt
    have hpl := plcs_len t E k
    have HR := Lib.hid hr
    have HG := Lib.hid hob
    have HP := Lib.hid hP
    have HB := Lib.hid hB
    clear hr hob hP hB
    by_cases hlt : k < len
    · obtain ⟨e0, e1⟩ := HS.out.at_ (by omega)
      subst e0
      have HSr := Lib.hid (HS.out.below HB.out)
      obtain ⟨k0, _, _⟩ := HSr.out.cell k hlt
      obtain ⟨et, het⟩ : ∃ et, et = (E k).t := ⟨_, rfl⟩
      rw [← het] at k0
      obtain ⟨q, hq⟩ : ∃ q, q = (et == t) := ⟨_, rfl⟩
      have HT : Hid (plcs t E (k + 1) = plcs t E k ++ if q then [k] else []) := Lib.hid (by rw [hq, het]; rfl)
      have hq2 := hq.symm
      obtain ⟨L, hL⟩ : ∃ L, L = plcs t E k := ⟨_, rfl⟩
      rw [← hL] at HR HT hpl
      obtain ⟨f, hf⟩ : ∃ f, f = L.length := ⟨_, rfl⟩
      rw [← hf] at HR hpl
      have HF := Lib.hid hf
      clear hL hf het hq
      obtain ⟨av, cv, hv, hcv1, hcv2, hav⟩ := HR.out.shape
      subst hv
      unfold maxLen at hcv2
      clear hav
      cases q
      · go_wp2_with fail
        go_quiet (fail)
        obtain ⟨wq, hwq⟩ : ∃ wq, wq = wr.drewN nq := ⟨_, rfl⟩
        have HRq : Hid (Row wq (.slice av f cv) ob 3 1 f (ownV L)) := Lib.hid (by rw [hwq]; exact HR.out.congr fun _ _ => rfl)
        have HBq : Hid (Below w.heap.size w wq) := Lib.hid (by rw [hwq]; exact below_drewN HB.out _)
        have HPq : Hid (Blk wq w.heap.size #[.int .i64 num, .int .i64 t, .int .i64 c, .slice la ln lc] 29) := Lib.hid (by rw [hwq]; exact HP.out)
        have hPlq := HPq.out.lt
        try rw [← hwq]
        clear hwq p1 p2 k0 hPl
        go_wp2_with fail
        go_roundw
        case rel => exact ⟨k + 1, ob, by omega, by go_num, by rw [HT.out]; simpa [← HF.out] using HRq.out, HG.out, HPq.out, HBq.out⟩
        case measure => first | (simp [intOf]; done) | (simp [intOf]; omega)
      · have hb8 : ((f : Int) + 1) * 8 ≤ 140737488355328 := by omega
        go_wp2_with fail
        go_quiet (fail)
        obtain ⟨wq, hwq⟩ : ∃ wq, wq = wr.drewN nq := ⟨_, rfl⟩
        have HRq : Hid (Row wq (.slice av f cv) ob 3 1 f (ownV L)) := Lib.hid (by rw [hwq]; exact HR.out.congr fun _ _ => rfl)
        have HBq : Hid (Below w.heap.size w wq) := Lib.hid (by rw [hwq]; exact below_drewN HB.out _)
        have HPq : Hid (Blk wq w.heap.size #[.int .i64 num, .int .i64 t, .int .i64 c, .slice la ln lc] 29) := Lib.hid (by rw [hwq]; exact HP.out)
        have hPlq := HPq.out.lt
        try rw [← hwq]
        clear hwq p1 p2 k0 hPl
        go_wp2_with (at_builtin; refine wpList_append_row _ rfl (.tmp 22) (.tmp 24) 77 rfl 3 i0 _ 1 8 Try.underlying77 HI.out HZ0.out HZ1.out HZ2.out rfl (by decide) _ ob f (ownV L) rfl (HRq.out.alloc _) ⟨wq.heap.size, 0, none⟩ 1 1 [.int .i64 (k : Nat)] rfl (by decide) rfl ?c1 ?c2 ?c3 ?c4 ?_)
        case c1 => exact p_one_at wq _ _
        case c2 => intro u hu; exact (List.all_eq_true (p := fun u : Value => u.oneCell')).1 rfl u hu
        case c3 => unfold maxLen; omega
        case c4 => omega
        intro v1' ob1' W3 hrow3 hg3 hob3
        have hzA : (wq.alloc (.cells #[.int .i64 (k : Nat)] 3)).heap.size = wq.heap.size + 1 := by simp
        have hob1 : w.heap.size < ob1' := by
          rcases hob3 with h | h
          · exact HG.out _ h
          · omega
        have HP3 : Hid (Blk W3 w.heap.size #[.int .i64 num, .int .i64 t, .int .i64 c, .slice la ln lc] 29) := Lib.hid ((hg3.block _ (by omega) (fun e => by have := HG.out _ e.symm; omega)).trans ((Below.heap_alloc _ _ _ hPlq).trans HPq.out))
        have HB3 : Hid (Below w.heap.size w W3) := Lib.hid ((HBq.out.alloc HBq.out.size _).grown hg3 (by omega) (fun g e => by have := HG.out _ e; omega))
        have HR3 := Lib.hid hrow3
        have HO3 := Lib.hid hob1
        clear hg3 hob3 hrow3 hob1
        go_wp2_with fail
        go_roundw
        case rel => exact ⟨k + 1, some ob1', by omega, by go_num, by rw [HT.out]; simp only [if_true, List.length_append, ← HF.out, ownV, List.map_append]; exact HR3.out, (fun g e => by obtain rfl := Option.some.inj e; exact HO3.out), HP3.out, HB3.out⟩
        case measure => first | (simp [intOf]; done) | (simp [intOf]; omega)
    · obtain rfl : k = len := by omega
      obtain ⟨L, hL⟩ : ∃ L, L = plcs t E k := ⟨_, rfl⟩
      rw [← hL] at HR hpl HKF HEF
      obtain ⟨f, hf⟩ : ∃ f, f = L.length := ⟨_, rfl⟩
      rw [← hf] at HR hpl HKF HEF
      have HF := Lib.hid hf
      clear hL hf
      obtain ⟨av, cv, hv, hcv1, hcv2, hav⟩ := HR.out.shape
      subst hv
      unfold maxLen at hcv2
      by_cases hz : f = 0
      · subst hz
        go_wp2_with fail
        go_ret2
        exact ⟨by rw [HKF.out, HEF.out]; simp, HB.out⟩
      · have hz2 : ((f : Int) == 0) = false := by simpa using hz
        by_cases hc0 : c < 0
        · have d0 : decide (c < 0) = true := by simpa using hc0
          go_wp2_with fail
          go_ret2
          exact ⟨by rw [HKF.out, HEF.out]; simp [hz, hc0], HB.out⟩
        · have d0 : decide (c < 0) = false := by simpa using hc0
          obtain ⟨R, hR⟩ : ∃ R : Nat, c % (f : Int) = (R : Nat) := ⟨(c % (f : Int)).toNat, by have := Int.emod_nonneg c (b := (f : Int)) (by omega); omega⟩
          have hRf : R < f := by have := Int.emod_lt_of_pos c (b := (f : Int)) (by omega); omega
          rw [hR] at HKF
          have HKK : Hid (kf = (L.getD R 0 : Nat)) := Lib.hid (by rw [HKF.out, if_neg hz, if_neg (by omega)]; simp)
          have HEE : Hid (ef = 0) := Lib.hid (by rw [HEF.out, if_neg hz, if_neg (by omega)])
          obtain ⟨g, hg, hgc, _⟩ := HR.out.cell R (by omega)
          have hgc2 : wr.cell? ⟨g, R, none⟩ = some (.int .i64 (L.getD R 0 : Nat)) := by
            rw [hgc, ownV, List.getElem?_map, List.getD_eq_getElem?_getD, List.getElem?_eq_getElem (by rw [← HF.out]; exact hRf)]
            rfl
          obtain ⟨y, hy⟩ : ∃ y, y = L.getD R 0 := ⟨_, rfl⟩
          rw [← hy] at hgc2
          rw [hg] at hav
          simp only [Option.map_some] at hav
          subst hav
          have HY := Lib.hid hy
          clear hgc hg hy
          go_wp2_with fail
          go_ret2
          exact ⟨by rw [HKK.out, HEE.out, ← HY.out]; rfl, HB.out⟩
end Go.Proofs.Ytcimcmfibinehaa
