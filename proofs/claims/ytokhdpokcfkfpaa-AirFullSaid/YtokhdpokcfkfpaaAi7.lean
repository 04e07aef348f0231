/-
  A message delivered.
-/
import Derived.Test.YtokhdpokcfkfpaaAi6
import Derived.StillTailTactics
namespace Go.Proofs.Ytokhdpokcfkfpaa
open Go.RowKit
set_option linter.unusedSimpArgs false
set_option linter.unusedVariables false

theorem zeroU (w : World) : (zeroValue 68).run Try.prog w = .ok (.agg #[]) w := by kernel_rfl

set_option maxRecDepth 100000 in
set_option maxHeartbeats 8000000 in
theorem deliver_ok (g b : Nat) (ob : Option Nat) (v : Value) (L : List MsE) (M : Int × Int → Option Value) (k : Nat) (m : MsE) (w : World) (h : AirAt w g b ob v L M) (hk : L[k]? = some m) (hM : (M (m.f, m.t)).getD (.agg #[]) = .agg #[]) :
    Calls Try.prog 17 #[.pointer (some ⟨g, 0, none⟩), .int .i64 (k : Int)] w fun e w' => e = .returned (.tuple #[.agg #[.int .i8 m.kd, .int .i64 m.f, .int .i64 m.t, .int .i64 m.te, .int .i64 m.ix, .int .i64 m.la, .int .i64 m.co, .bool m.ok, .slice none 0 0, .int .i64 m.si, .int .i64 m.st, .int .u8 m.sc, .slice none 0 0, .slice none 0 0], .bool (!(M (m.f, m.t)).isSome), .int .i64 0]) ∧ ∃ v', AirAt w' g b ob v' (L.eraseIdx k) M ∧ Fr (g :: ob.toList) w w' := by
  have hkl : k < L.length := by have := (List.getElem?_eq_some_iff.1 hk).1; exact this
  obtain ⟨N, hN⟩ : ∃ N, N = w.heap.size := ⟨_, rfl⟩
  obtain ⟨W1, hW1⟩ : ∃ W1, W1 = w.alloc (.cells #[.int .i8 0, .int .i64 0, .int .i64 0, .int .i64 0, .int .i64 0, .int .i64 0, .int .i64 0, .bool false, .slice none 0 0, .int .i64 0, .int .i64 0, .int .u8 0, .slice none 0 0, .slice none 0 0] 39) := ⟨_, rfl⟩
  have hB1 : Below w.heap.size w W1 := by rw [hW1]; exact (Below.refl _ _).alloc (Nat.le_refl _) _
  have HR1 : Hid (Blk W1 N #[.int .i8 0, .int .i64 0, .int .i64 0, .int .i64 0, .int .i64 0, .int .i64 0, .int .i64 0, .bool false, .slice none 0 0, .int .i64 0, .int .i64 0, .int .u8 0, .slice none 0 0, .slice none 0 0] 39) := Lib.hid (by rw [hW1, hN]; exact blk_new _ _ _)
  have h1 := h.below hB1
  have LK := Lib.hid (lacks_ok g b ob v L M k W1 h1 hkl)
  have TK := Lib.hid (take_ok g b ob v L M k m W1 h1 hk)
  have HF1 : Hid (Fr (g :: ob.toList) w W1) := Lib.hid ((Fr.of_below hB1).mono (by simp))
  have HN := Lib.hid hN
  have HGN : Hid (g < N ∧ b < N ∧ ∀ x, ob = some x → x < N) := Lib.hid ⟨by rw [hN]; exact h.blk.lt, by rw [hN]; exact h.map.lt, fun x hx => by have hr := h.row; subst hx; rw [hN]; exact hr.lt⟩
  clear h h1 hB1 hk hkl
  go_enter Try.func17, Try.ntmps17
  go_upto_region 1 with fail
  rw [← hN, ← hW1]
  clear hN hW1
  go_wp2_with fail
  go_at_call 33
  refine Calls.mono LK.out ?_
  rintro e w' ⟨rfl, rfl⟩
  go_wp2_with fail
  go_at_call 34
  refine Calls.mono TK.out ?_
  rintro e W2 ⟨rfl, v2, hA2, hf2⟩
  have HR2 : Hid (Blk W2 N #[.int .i8 0, .int .i64 0, .int .i64 0, .int .i64 0, .int .i64 0, .int .i64 0, .int .i64 0, .bool false, .slice none 0 0, .int .i64 0, .int .i64 0, .int .u8 0, .slice none 0 0, .slice none 0 0] 39) := Lib.hid ((hf2.block N HR1.out.lt (by
    have := HGN.out
    intro hm
    simp only [List.mem_cons, Option.mem_toList] at hm
    rcases hm with e | e
    · omega
    · have := this.2.2 N (by simpa using e); omega)).trans HR1.out)
  have HA2 := Lib.hid hA2
  have HF2 := Lib.hid (HF1.out.trans hf2 (fun x hx => .inl hx))
  have d0 : W2.cell? ⟨N, 0, none⟩ = some (.int .i8 0) := cell_at HR2.out 0
  have d1 : W2.cell? ⟨N, 1, none⟩ = some (.int .i64 0) := cell_at HR2.out 1
  have d2 : W2.cell? ⟨N, 2, none⟩ = some (.int .i64 0) := cell_at HR2.out 2
  have d3 : W2.cell? ⟨N, 3, none⟩ = some (.int .i64 0) := cell_at HR2.out 3
  have d4 : W2.cell? ⟨N, 4, none⟩ = some (.int .i64 0) := cell_at HR2.out 4
  have d5 : W2.cell? ⟨N, 5, none⟩ = some (.int .i64 0) := cell_at HR2.out 5
  have d6 : W2.cell? ⟨N, 6, none⟩ = some (.int .i64 0) := cell_at HR2.out 6
  have d7 : W2.cell? ⟨N, 7, none⟩ = some (.bool false) := cell_at HR2.out 7
  have d8 : W2.cell? ⟨N, 8, none⟩ = some (.slice none 0 0) := cell_at HR2.out 8
  have d9 : W2.cell? ⟨N, 9, none⟩ = some (.int .i64 0) := cell_at HR2.out 9
  have d10 : W2.cell? ⟨N, 10, none⟩ = some (.int .i64 0) := cell_at HR2.out 10
  have d11 : W2.cell? ⟨N, 11, none⟩ = some (.int .u8 0) := cell_at HR2.out 11
  have d12 : W2.cell? ⟨N, 12, none⟩ = some (.slice none 0 0) := cell_at HR2.out 12
  have d13 : W2.cell? ⟨N, 13, none⟩ = some (.slice none 0 0) := cell_at HR2.out 13
  have z2 : ∀ j, W2.frozen? ⟨N, j, none⟩ = false := fun j => free_at HR2.out j
  have hN2 : N < W2.heap.size := HR2.out.lt
  clear hA2 hf2 HF1 HR1 LK TK
  go_upto_region 5 with fail
  obtain ⟨LS, hLS⟩ : ∃ L : List Value, L = [.int .i8 m.kd, .int .i64 m.f, .int .i64 m.t, .int .i64 m.te, .int .i64 m.ix, .int .i64 m.la, .int .i64 m.co, .bool m.ok, .slice none 0 0, .int .i64 m.si, .int .i64 m.st, .int .u8 m.sc, .slice none 0 0, .slice none 0 0] := ⟨_, rfl⟩
  obtain ⟨WS, hWS⟩ : ∃ WS, WS = W2.setCells (N) 0 LS := ⟨_, rfl⟩
  have hchS := hWS
  rw [hLS] at hchS
  simp only [World.setCells, Nat.zero_add, Nat.reduceAdd] at hchS
  rw [← hchS]
  clear hchS
  have hkS := stC_blk HR2.out LS (by rw [hLS]; rfl)
  have hfrS := stC_fr (N) LS 0 W2
  rw [← hWS] at hkS hfrS
  rw [hLS] at hkS
  have r0 : WS.cell? ⟨N, 0, none⟩ = some (.int .i8 m.kd) := cell_at hkS 0
  have r1 : WS.cell? ⟨N, 1, none⟩ = some (.int .i64 m.f) := cell_at hkS 1
  have r2 : WS.cell? ⟨N, 2, none⟩ = some (.int .i64 m.t) := cell_at hkS 2
  have r3 : WS.cell? ⟨N, 3, none⟩ = some (.int .i64 m.te) := cell_at hkS 3
  have r4 : WS.cell? ⟨N, 4, none⟩ = some (.int .i64 m.ix) := cell_at hkS 4
  have r5 : WS.cell? ⟨N, 5, none⟩ = some (.int .i64 m.la) := cell_at hkS 5
  have r6 : WS.cell? ⟨N, 6, none⟩ = some (.int .i64 m.co) := cell_at hkS 6
  have r7 : WS.cell? ⟨N, 7, none⟩ = some (.bool m.ok) := cell_at hkS 7
  have r8 : WS.cell? ⟨N, 8, none⟩ = some (.slice none 0 0) := cell_at hkS 8
  have r9 : WS.cell? ⟨N, 9, none⟩ = some (.int .i64 m.si) := cell_at hkS 9
  have r10 : WS.cell? ⟨N, 10, none⟩ = some (.int .i64 m.st) := cell_at hkS 10
  have r11 : WS.cell? ⟨N, 11, none⟩ = some (.int .u8 m.sc) := cell_at hkS 11
  have r12 : WS.cell? ⟨N, 12, none⟩ = some (.slice none 0 0) := cell_at hkS 12
  have r13 : WS.cell? ⟨N, 13, none⟩ = some (.slice none 0 0) := cell_at hkS 13
  clear hWS hLS
  have hA3 := HA2.out.fr hfrS (by have := HGN.out; simp; omega) (by have := HGN.out; simp; omega) (fun x hx => by have := HGN.out.2.2 x hx; simp; omega)
  have HA3 := Lib.hid hA3
  have HK3 := Lib.hid hkS
  have HF3 := Lib.hid (HF2.out.trans hfrS (fun x hx => by simp at hx; subst hx; have := HN.out; exact .inr (by omega)))
  have c1 : WS.cell? ⟨g, 1, none⟩ = some (.map (some b)) := cell_at hA3.blk 1
  have hmo : MapO WS.drew b encW M := hA3.map.o
  have hlk := hmo.look_ok keyW Try.underlying59 (zeroU WS.drew) (m.f, m.t)
  rw [hM] at hlk
  change (Instr.lookup 59 (.map (some b)) (.agg #[.int .i64 m.f, .int .i64 m.t]) true).run Try.prog WS.drew = _ at hlk
  have hmo2 : MapO (WS.alloc (.cells #[] 68)).drew b encW M := (hA3.map.o.congr (Below.heap_alloc WS (.cells #[] 68) b hA3.map.lt) : MapO (WS.alloc (.cells #[] 68)) b encW M)
  have hlk2 := hmo2.look_ok keyW Try.underlying59 (zeroU (WS.alloc (.cells #[] 68)).drew) (m.f, m.t)
  rw [hM] at hlk2
  change (Instr.lookup 59 (.map (some b)) (.agg #[.int .i64 m.f, .int .i64 m.t]) true).run Try.prog (WS.alloc (.cells #[] 68)).drew = _ at hlk2
  have hgS : g < WS.heap.size := hA3.blk.lt
  obtain ⟨C, hC⟩ : ∃ C, C = (M (m.f, m.t)).isSome := ⟨_, rfl⟩
  rw [← hC] at hlk hlk2
  have HC := Lib.hid hC
  have hNS : N < WS.heap.size := HK3.out.lt
  clear hmo hmo2 hA3 hkS hfrS HA2 HF2 HR2 hM hC d0 d1 d2 d3 d4 d5 d6 d7 d8 d9 d10 d11 d12 d13 z2 hN2
  go_region
  all_goals
    obtain ⟨W4, hW4⟩ : ∃ W4, W4 = (WS.alloc (.cells #[] 68)).drew := ⟨_, rfl⟩
    rw [← hW4]
    have hk4 : Blk W4 N #[.int .i8 m.kd, .int .i64 m.f, .int .i64 m.t, .int .i64 m.te, .int .i64 m.ix, .int .i64 m.la, .int .i64 m.co, .bool m.ok, .slice none 0 0, .int .i64 m.si, .int .i64 m.st, .int .u8 m.sc, .slice none 0 0, .slice none 0 0] 39 := by rw [hW4]; exact (HK3.out.alloc _ : Blk (WS.alloc (.cells #[] 68)) N #[.int .i8 m.kd, .int .i64 m.f, .int .i64 m.t, .int .i64 m.te, .int .i64 m.ix, .int .i64 m.la, .int .i64 m.co, .bool m.ok, .slice none 0 0, .int .i64 m.si, .int .i64 m.st, .int .u8 m.sc, .slice none 0 0, .slice none 0 0] 39)
    have HB4 : Hid (Below WS.heap.size WS W4) := Lib.hid (by rw [hW4]; exact (((Below.refl WS.heap.size WS).alloc (Nat.le_refl _) _).drew : Below _ _ _))
    have HK4 := Lib.hid hk4
    have e0 : W4.cell? ⟨N, 0, none⟩ = some (.int .i8 m.kd) := cell_at HK4.out 0
    have e1 : W4.cell? ⟨N, 1, none⟩ = some (.int .i64 m.f) := cell_at HK4.out 1
    have e2 : W4.cell? ⟨N, 2, none⟩ = some (.int .i64 m.t) := cell_at HK4.out 2
    have e3 : W4.cell? ⟨N, 3, none⟩ = some (.int .i64 m.te) := cell_at HK4.out 3
    have e4 : W4.cell? ⟨N, 4, none⟩ = some (.int .i64 m.ix) := cell_at HK4.out 4
    have e5 : W4.cell? ⟨N, 5, none⟩ = some (.int .i64 m.la) := cell_at HK4.out 5
    have e6 : W4.cell? ⟨N, 6, none⟩ = some (.int .i64 m.co) := cell_at HK4.out 6
    have e7 : W4.cell? ⟨N, 7, none⟩ = some (.bool m.ok) := cell_at HK4.out 7
    have e8 : W4.cell? ⟨N, 8, none⟩ = some (.slice none 0 0) := cell_at HK4.out 8
    have e9 : W4.cell? ⟨N, 9, none⟩ = some (.int .i64 m.si) := cell_at HK4.out 9
    have e10 : W4.cell? ⟨N, 10, none⟩ = some (.int .i64 m.st) := cell_at HK4.out 10
    have e11 : W4.cell? ⟨N, 11, none⟩ = some (.int .u8 m.sc) := cell_at HK4.out 11
    have e12 : W4.cell? ⟨N, 12, none⟩ = some (.slice none 0 0) := cell_at HK4.out 12
    have e13 : W4.cell? ⟨N, 13, none⟩ = some (.slice none 0 0) := cell_at HK4.out 13
    have z4 : ∀ j, W4.frozen? ⟨N, j, none⟩ = false := fun j => free_at HK4.out j
    have hN4 : N < W4.heap.size := HK4.out.lt
    clear hW4 hk4 hlk hlk2 c1 hgS hNS r0 r1 r2 r3 r4 r5 r6 r7 r8 r9 r10 r11 r12 r13
    go_wp2_with fail
    obtain ⟨LT, hLT⟩ : ∃ L : List Value, L = [.int .i8 m.kd, .int .i64 m.f, .int .i64 m.t, .int .i64 m.te, .int .i64 m.ix, .int .i64 m.la, .int .i64 m.co, .bool m.ok, .slice none 0 0, .int .i64 m.si, .int .i64 m.st, .int .u8 m.sc, .slice none 0 0, .slice none 0 0] := ⟨_, rfl⟩
    obtain ⟨WT, hWT⟩ : ∃ WS, WS = W4.setCells (N) 0 LT := ⟨_, rfl⟩
    have hchT := hWT
    rw [hLT] at hchT
    simp only [World.setCells, Nat.zero_add, Nat.reduceAdd] at hchT
    rw [← hchT]
    clear hchT
    have hkT := stC_blk HK4.out LT (by rw [hLT]; rfl)
    have hfrT := stC_fr (N) LT 0 W4
    rw [← hWT] at hkT hfrT
    rw [hLT] at hkT
    have t0 : WT.cell? ⟨N, 0, none⟩ = some (.int .i8 m.kd) := cell_at hkT 0
    have t1 : WT.cell? ⟨N, 1, none⟩ = some (.int .i64 m.f) := cell_at hkT 1
    have t2 : WT.cell? ⟨N, 2, none⟩ = some (.int .i64 m.t) := cell_at hkT 2
    have t3 : WT.cell? ⟨N, 3, none⟩ = some (.int .i64 m.te) := cell_at hkT 3
    have t4 : WT.cell? ⟨N, 4, none⟩ = some (.int .i64 m.ix) := cell_at hkT 4
    have t5 : WT.cell? ⟨N, 5, none⟩ = some (.int .i64 m.la) := cell_at hkT 5
    have t6 : WT.cell? ⟨N, 6, none⟩ = some (.int .i64 m.co) := cell_at hkT 6
    have t7 : WT.cell? ⟨N, 7, none⟩ = some (.bool m.ok) := cell_at hkT 7
    have t8 : WT.cell? ⟨N, 8, none⟩ = some (.slice none 0 0) := cell_at hkT 8
    have t9 : WT.cell? ⟨N, 9, none⟩ = some (.int .i64 m.si) := cell_at hkT 9
    have t10 : WT.cell? ⟨N, 10, none⟩ = some (.int .i64 m.st) := cell_at hkT 10
    have t11 : WT.cell? ⟨N, 11, none⟩ = some (.int .u8 m.sc) := cell_at hkT 11
    have t12 : WT.cell? ⟨N, 12, none⟩ = some (.slice none 0 0) := cell_at hkT 12
    have t13 : WT.cell? ⟨N, 13, none⟩ = some (.slice none 0 0) := cell_at hkT 13
    clear hWT hLT
    refine bodyPost_ret (v := .tuple #[.agg #[.int .i8 m.kd, .int .i64 m.f, .int .i64 m.t, .int .i64 m.te, .int .i64 m.ix, .int .i64 m.la, .int .i64 m.co, .bool m.ok, .slice none 0 0, .int .i64 m.si, .int .i64 m.st, .int .u8 m.sc, .slice none 0 0, .slice none 0 0], .bool (!C), .int .i64 0]) (by simp [results, Try.results17, go_sem, t0, t1, t2, t3, t4, t5, t6, t7, t8, t9, t10, t11, t12, t13]) rfl ?_
    refine ⟨by rw [HC.out], v2, (HA3.out.below HB4.out).fr hfrT (by have := HGN.out; simp; omega) (by have := HGN.out; simp; omega) (fun x hx => by have := HGN.out.2.2 x hx; simp; omega), ?_⟩
    refine (HF3.out.trans (Fr.of_below HB4.out) (by simp)).trans hfrT (fun x hx => by simp at hx; subst hx; have := HN.out; exact .inr (by omega))
end Go.Proofs.Ytokhdpokcfkfpaa
