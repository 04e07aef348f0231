/-
  AirFull, walked: the beginning.
-/
import Derived.Test.YtokhdpokcfkfpaaAim
import Derived.Test.YtokhdpokcfkfpaaAio
import Derived.Test.YtokhdpokcfkfpaaAi8
import Derived.Test.YtokhdpokcfkfpaaAi9
namespace Go.Proofs.Ytokhdpokcfkfpaa
open Go.RowKit
set_option linter.unusedSimpArgs false
set_option linter.unusedVariables false

theorem repl_erase {α : Type} : ∀ (n q : Nat) (m : α), q < n + 1 → (List.replicate (n + 1) m).eraseIdx q = List.replicate n m
  | n, 0, m, _ => rfl
  | 0, q + 1, m, h => absurd h (by omega)
  | n + 1, q + 1, m, h => by
    show m :: (List.replicate (n + 1) m).eraseIdx q = m :: List.replicate n m
    rw [repl_erase n q m (by omega)]
set_option maxRecDepth 100000 in
set_option maxHeartbeats 16000000 in
theorem full_walk (kd f0 t0 te ix la co si st sc : Int) (ok : Bool) (e0 s0 d0 : Option Addr) (e1 e2 s1 s2 d1 d2 : Nat) (a1 : Int) (w : World) :
    Calls Try.prog 4 #[.agg #[.int .i8 kd, .int .i64 f0, .int .i64 t0, .int .i64 te, .int .i64 ix, .int .i64 la, .int .i64 co, .bool ok, .slice e0 e1 e2, .int .i64 si, .int .i64 st, .int .u8 sc, .slice s0 s1 s2, .slice d0 d1 d2], .int .i64 a1] w fun e w' => e = .returned (.bool true) ∧ Below w.heap.size w w' := by
  obtain ⟨N, hN⟩ : ∃ N, N = w.heap.size := ⟨_, rfl⟩
  obtain ⟨W0, hW0⟩ : ∃ W0, W0 = w.alloc (.cells #[.int .i8 kd, .int .i64 f0, .int .i64 t0, .int .i64 te, .int .i64 ix, .int .i64 la, .int .i64 co, .bool ok, .slice e0 e1 e2, .int .i64 si, .int .i64 st, .int .u8 sc, .slice s0 s1 s2, .slice d0 d1 d2] 39) := ⟨_, rfl⟩
  have hB0 : Below w.heap.size w W0 := by rw [hW0]; exact (Below.refl _ _).alloc (Nat.le_refl _) _
  have HK0 : Hid (Blk W0 N #[.int .i8 kd, .int .i64 f0, .int .i64 t0, .int .i64 te, .int .i64 ix, .int .i64 la, .int .i64 co, .bool ok, .slice e0 e1 e2, .int .i64 si, .int .i64 st, .int .u8 sc, .slice s0 s1 s2, .slice d0 d1 d2] 39) := Lib.hid (by rw [hW0, hN]; exact blk_new _ _ _)
  have NW := airNew_any W0
  have HNW := Lib.hid NW
  have HB0 := Lib.hid hB0
  have HGN : Hid (w.heap.size ≤ N) := Lib.hid (by rw [hN]; exact Nat.le_refl _)
  clear NW hB0
  go_enter Try.func4, Try.ntmps4
  go_upto_region 1 with fail
  rw [← hN, ← hW0]
  clear hN hW0
  go_wp2_with fail
  go_at_call 9
  refine Calls.mono HNW.out ?_
  rintro e W1 ⟨rfl, h1, hw1⟩
  obtain ⟨b, hb⟩ : ∃ b, b = W0.heap.size := ⟨_, rfl⟩
  rw [← hb] at h1 ⊢
  have hk1 : Blk W1 N #[.int .i8 kd, .int .i64 f0, .int .i64 t0, .int .i64 te, .int .i64 ix, .int .i64 la, .int .i64 co, .bool ok, .slice e0 e1 e2, .int .i64 si, .int .i64 st, .int .u8 sc, .slice s0 s1 s2, .slice d0 d1 d2] 39 := (hw1.block N HK0.out.lt).trans HK0.out
  have HK1 := Lib.hid hk1
  have H1 := Lib.hid h1
  have HB1 := Lib.hid (HB0.out.trans (hw1.mono HB0.out.size))
  have HGB : Hid (N < b) := Lib.hid (by rw [hb]; exact HK0.out.lt)
  have z1 : ∀ j, W1.frozen? ⟨N, j, none⟩ = false := fun j => free_at hk1 j
  have l1 : N < W1.heap.size := hk1.lt
  clear h1 hw1 hk1 hb HNW HB0 HK0
  go_upto_region 2 with fail
  have c1 : W1.cell? ⟨N, 1, none⟩ = some (.int .i64 f0) := cell_at HK1.out 1
  go_upto_region 3 with fail
  obtain ⟨W2, hW2⟩ : ∃ WS, WS = W1.setCell ⟨N, 1, none⟩ (.int .i64 1) := ⟨_, rfl⟩
  rw [← hW2]
  have hk2 : Blk W2 N #[.int .i8 kd, .int .i64 1, .int .i64 t0, .int .i64 te, .int .i64 ix, .int .i64 la, .int .i64 co, .bool ok, .slice e0 e1 e2, .int .i64 si, .int .i64 st, .int .u8 sc, .slice s0 s1 s2, .slice d0 d1 d2] 39 := by rw [hW2]; exact HK1.out.set 1 _
  have hf2 : Fr [N] W1 W2 := by rw [hW2]; exact (Fr.refl [N] W1).setCell ⟨N, 1, none⟩ (.inl (by simp)) _
  have HB2 := Lib.hid (HB1.out.trans (hf2.below HB1.out.size (by have := HGN.out; simp; omega)))
  have H2 := Lib.hid (H1.out.fr hf2 (by have := HGB.out; simp; omega) (by have := HGB.out; simp; omega) (by simp))
  have HK2 := Lib.hid hk2
  have z2 : ∀ j, W2.frozen? ⟨N, j, none⟩ = false := fun j => free_at hk2 j
  have l2 : N < W2.heap.size := hk2.lt
  clear hW2 hk2 hf2 c1 z1 l1 HK1 H1 HB1
  have c2 : W2.cell? ⟨N, 2, none⟩ = some (.int .i64 t0) := cell_at HK2.out 2
  go_upto_region 4 with fail
  obtain ⟨W3, hW3⟩ : ∃ WS, WS = W2.setCell ⟨N, 2, none⟩ (.int .i64 255) := ⟨_, rfl⟩
  rw [← hW3]
  have hk3 : Blk W3 N #[.int .i8 kd, .int .i64 1, .int .i64 255, .int .i64 te, .int .i64 ix, .int .i64 la, .int .i64 co, .bool ok, .slice e0 e1 e2, .int .i64 si, .int .i64 st, .int .u8 sc, .slice s0 s1 s2, .slice d0 d1 d2] 39 := by rw [hW3]; exact HK2.out.set 2 _
  have hf3 : Fr [N] W2 W3 := by rw [hW3]; exact (Fr.refl [N] W2).setCell ⟨N, 2, none⟩ (.inl (by simp)) _
  have HB3 := Lib.hid (HB2.out.trans (hf3.below HB2.out.size (by have := HGN.out; simp; omega)))
  have H3 := Lib.hid (H2.out.fr hf3 (by have := HGB.out; simp; omega) (by have := HGB.out; simp; omega) (by simp))
  have HK3 := Lib.hid hk3
  have z3 : ∀ j, W3.frozen? ⟨N, j, none⟩ = false := fun j => free_at hk3 j
  have l3 : N < W3.heap.size := hk3.lt
  clear hW3 hk3 hf3 c2 z2 l2 HK2 H2 HB2
  have c3 : W3.cell? ⟨N, 8, none⟩ = some (.slice e0 e1 e2) := cell_at HK3.out 8
  go_upto_region 5 with fail
  obtain ⟨W4, hW4⟩ : ∃ WS, WS = W3.setCell ⟨N, 8, none⟩ (.slice none 0 0) := ⟨_, rfl⟩
  rw [← hW4]
  have hk4 : Blk W4 N #[.int .i8 kd, .int .i64 1, .int .i64 255, .int .i64 te, .int .i64 ix, .int .i64 la, .int .i64 co, .bool ok, .slice none 0 0, .int .i64 si, .int .i64 st, .int .u8 sc, .slice s0 s1 s2, .slice d0 d1 d2] 39 := by rw [hW4]; exact HK3.out.set 8 _
  have hf4 : Fr [N] W3 W4 := by rw [hW4]; exact (Fr.refl [N] W3).setCell ⟨N, 8, none⟩ (.inl (by simp)) _
  have HB4 := Lib.hid (HB3.out.trans (hf4.below HB3.out.size (by have := HGN.out; simp; omega)))
  have H4 := Lib.hid (H3.out.fr hf4 (by have := HGB.out; simp; omega) (by have := HGB.out; simp; omega) (by simp))
  have HK4 := Lib.hid hk4
  have z4 : ∀ j, W4.frozen? ⟨N, j, none⟩ = false := fun j => free_at hk4 j
  have l4 : N < W4.heap.size := hk4.lt
  clear hW4 hk4 hf4 c3 z3 l3 HK3 H3 HB3
  have c4 : W4.cell? ⟨N, 13, none⟩ = some (.slice d0 d1 d2) := cell_at HK4.out 13
  go_upto_region 6 with fail
  obtain ⟨W5, hW5⟩ : ∃ WS, WS = W4.setCell ⟨N, 13, none⟩ (.slice none 0 0) := ⟨_, rfl⟩
  rw [← hW5]
  have hk5 : Blk W5 N #[.int .i8 kd, .int .i64 1, .int .i64 255, .int .i64 te, .int .i64 ix, .int .i64 la, .int .i64 co, .bool ok, .slice none 0 0, .int .i64 si, .int .i64 st, .int .u8 sc, .slice s0 s1 s2, .slice none 0 0] 39 := by rw [hW5]; exact HK4.out.set 13 _
  have hf5 : Fr [N] W4 W5 := by rw [hW5]; exact (Fr.refl [N] W4).setCell ⟨N, 13, none⟩ (.inl (by simp)) _
  have HB5 := Lib.hid (HB4.out.trans (hf5.below HB4.out.size (by have := HGN.out; simp; omega)))
  have H5 := Lib.hid (H4.out.fr hf5 (by have := HGB.out; simp; omega) (by have := HGB.out; simp; omega) (by simp))
  have HK5 := Lib.hid hk5
  have z5 : ∀ j, W5.frozen? ⟨N, j, none⟩ = false := fun j => free_at hk5 j
  have l5 : N < W5.heap.size := hk5.lt
  clear hW5 hk5 hf5 c4 z4 l4 HK4 H4 HB4
  have c5 : W5.cell? ⟨N, 12, none⟩ = some (.slice s0 s1 s2) := cell_at HK5.out 12
  go_upto_region 7 with fail
  obtain ⟨W6, hW6⟩ : ∃ WS, WS = W5.setCell ⟨N, 12, none⟩ (.slice none 0 0) := ⟨_, rfl⟩
  rw [← hW6]
  have hk6 : Blk W6 N #[.int .i8 kd, .int .i64 1, .int .i64 255, .int .i64 te, .int .i64 ix, .int .i64 la, .int .i64 co, .bool ok, .slice none 0 0, .int .i64 si, .int .i64 st, .int .u8 sc, .slice none 0 0, .slice none 0 0] 39 := by rw [hW6]; exact HK5.out.set 12 _
  have hf6 : Fr [N] W5 W6 := by rw [hW6]; exact (Fr.refl [N] W5).setCell ⟨N, 12, none⟩ (.inl (by simp)) _
  have HB6 := Lib.hid (HB5.out.trans (hf6.below HB5.out.size (by have := HGN.out; simp; omega)))
  have H6 := Lib.hid (H5.out.fr hf6 (by have := HGB.out; simp; omega) (by have := HGB.out; simp; omega) (by simp))
  have HK6 := Lib.hid hk6
  have z6 : ∀ j, W6.frozen? ⟨N, j, none⟩ = false := fun j => free_at hk6 j
  have l6 : N < W6.heap.size := hk6.lt
  clear hW6 hk6 hf6 c5 z5 l5 HK5 H5 HB5
  clear z6 l6
  go_wp2_with fail
  have hWay : wayB 1 255 = true := by unfold wayB; simp
  have HWay := Lib.hid hWay
  clear hWay
  obtain ⟨m, hm⟩ : ∃ m : MsE, m = ⟨1, 255, te, ix, kd, la, co, ok, si, st, sc⟩ := ⟨_, rfl⟩
  have HM := Lib.hid hm
  clear hm
  go_loopw [6] (fun v6 wr => ∃ (k : Nat) (ob : Option Nat) (v : Value), k ≤ 1024 ∧ v6 = .int .i64 k ∧ AirAt wr (b + 1) b ob v (List.replicate k m) (fun _ => none) ∧ (∀ x, ob = some x → N < x) ∧ Blk wr N #[.int .i8 kd, .int .i64 1, .int .i64 255, .int .i64 te, .int .i64 ix, .int .i64 la, .int .i64 co, .bool ok, .slice none 0 0, .int .i64 si, .int .i64 st, .int .u8 sc, .slice none 0 0, .slice none 0 0] 39 ∧ Below w.heap.size w wr) (fun vi _ => 1024 - (intOf vi).toNat)
  case atStart => exact ⟨0, none, _, Nat.zero_le _, rfl, H6.out, (fun x hx => nomatch hx), HK6.out, HB6.out⟩
  case round =>
    clear H6 HK6 HB6
    obtain ⟨k, ob, v, hk, rfl, hA, hob, hN, hB⟩ := hrel
    have HA := Lib.hid hA
    have HN := Lib.hid hN
    have HB := Lib.hid hB
    have HOB := Lib.hid hob
    clear hA hN hB hob
    by_cases hj3 : k < 1024
    · have SD := send_ok (b + 1) b ob v _ (fun _ => none) m wr HA.out (by simp; omega) (by rw [HM.out]; exact HWay.out)
      have HSD := Lib.hid SD
      have n0 : wr.cell? ⟨N, 0, none⟩ = some (.int .i8 kd) := cell_at HN.out 0
      have n1 : wr.cell? ⟨N, 1, none⟩ = some (.int .i64 1) := cell_at HN.out 1
      have n2 : wr.cell? ⟨N, 2, none⟩ = some (.int .i64 255) := cell_at HN.out 2
      have n3 : wr.cell? ⟨N, 3, none⟩ = some (.int .i64 te) := cell_at HN.out 3
      have n4 : wr.cell? ⟨N, 4, none⟩ = some (.int .i64 ix) := cell_at HN.out 4
      have n5 : wr.cell? ⟨N, 5, none⟩ = some (.int .i64 la) := cell_at HN.out 5
      have n6 : wr.cell? ⟨N, 6, none⟩ = some (.int .i64 co) := cell_at HN.out 6
      have n7 : wr.cell? ⟨N, 7, none⟩ = some (.bool ok) := cell_at HN.out 7
      have n8 : wr.cell? ⟨N, 8, none⟩ = some (.slice none 0 0) := cell_at HN.out 8
      have n9 : wr.cell? ⟨N, 9, none⟩ = some (.int .i64 si) := cell_at HN.out 9
      have n10 : wr.cell? ⟨N, 10, none⟩ = some (.int .i64 st) := cell_at HN.out 10
      have n11 : wr.cell? ⟨N, 11, none⟩ = some (.int .u8 sc) := cell_at HN.out 11
      have n12 : wr.cell? ⟨N, 12, none⟩ = some (.slice none 0 0) := cell_at HN.out 12
      have n13 : wr.cell? ⟨N, 13, none⟩ = some (.slice none 0 0) := cell_at HN.out 13
      have hNl : N < wr.heap.size := HN.out.lt
      clear SD
      rw [HM.out] at HSD
      go_wp2_with fail
      go_at_call 13
      refine Calls.mono HSD.out ?_
      rintro e W3 ⟨rfl, ob3, v3, h3, hf3, ho3⟩
      rw [← HM.out] at h3
      have H3 := Lib.hid h3
      have HF3 := Lib.hid hf3
      have HO3 := Lib.hid ho3
      clear h3 hf3 ho3 n0 n1 n2 n3 n4 n5 n6 n7 n8 n9 n10 n11 n12 n13
      go_wp2_with fail
      go_roundw
      case rel => exact ⟨k + 1, some ob3, v3, by omega, by go_num, (by have := H3.out; rw [← List.replicate_succ'] at this; exact this), (by
          intro x hx
          obtain rfl := Option.some.inj hx
          rcases HO3.out with e | e
          · exact HOB.out _ e
          · omega), (HF3.out.block N hNl (by
            have := HGB.out
            intro hm
            simp only [List.mem_cons, Option.mem_toList] at hm
            rcases hm with e | e
            · omega
            · have := HOB.out N (by simpa using e); omega)).trans HN.out, HB.out.trans (HF3.out.below HB.out.size (by
            intro x hm
            have := HGB.out
            have := HGN.out
            simp only [List.mem_cons, Option.mem_toList] at hm
            rcases hm with e | e
            · omega
            · have := HOB.out x (by simpa using e); omega))⟩
      case measure => first | (simp [intOf]; done) | (simp [intOf]; omega)
    · obtain rfl : k = 1024 := by omega
      obtain ⟨q0, q1⟩ := wmod_bd a1 1024 (by omega) (by omega)
      go_upto_region 13 with fail
      generalize (wrap64 (a1.tmod 1024 + 1024)).tmod 1024 = Q0 at q0 q1 ⊢
      obtain ⟨q, rfl⟩ : ∃ q : Nat, Q0 = (q : Int) := ⟨Q0.toNat, by omega⟩
      have hq : q < 1024 := by omega
      have hLq : (List.replicate 1024 m)[q]? = some m := by rw [List.getElem?_replicate]; simp only [hq, if_true]
      have HLQ := Lib.hid hLq
      have SF := send_full (b + 1) b ob v _ (fun _ => none) m wr HA.out (by simp) (by rw [HM.out]; exact HWay.out)
      rw [HM.out] at SF
      have HSF := Lib.hid SF
      have n0 : wr.cell? ⟨N, 0, none⟩ = some (.int .i8 kd) := cell_at HN.out 0
      have n1 : wr.cell? ⟨N, 1, none⟩ = some (.int .i64 1) := cell_at HN.out 1
      have n2 : wr.cell? ⟨N, 2, none⟩ = some (.int .i64 255) := cell_at HN.out 2
      have n3 : wr.cell? ⟨N, 3, none⟩ = some (.int .i64 te) := cell_at HN.out 3
      have n4 : wr.cell? ⟨N, 4, none⟩ = some (.int .i64 ix) := cell_at HN.out 4
      have n5 : wr.cell? ⟨N, 5, none⟩ = some (.int .i64 la) := cell_at HN.out 5
      have n6 : wr.cell? ⟨N, 6, none⟩ = some (.int .i64 co) := cell_at HN.out 6
      have n7 : wr.cell? ⟨N, 7, none⟩ = some (.bool ok) := cell_at HN.out 7
      have n8 : wr.cell? ⟨N, 8, none⟩ = some (.slice none 0 0) := cell_at HN.out 8
      have n9 : wr.cell? ⟨N, 9, none⟩ = some (.int .i64 si) := cell_at HN.out 9
      have n10 : wr.cell? ⟨N, 10, none⟩ = some (.int .i64 st) := cell_at HN.out 10
      have n11 : wr.cell? ⟨N, 11, none⟩ = some (.int .u8 sc) := cell_at HN.out 11
      have n12 : wr.cell? ⟨N, 12, none⟩ = some (.slice none 0 0) := cell_at HN.out 12
      have n13 : wr.cell? ⟨N, 13, none⟩ = some (.slice none 0 0) := cell_at HN.out 13
      clear SF hLq q0 q1
      have HO : Hid (∀ x ∈ (b + 1) :: ob.toList, w.heap.size ≤ x) := Lib.hid (by
        intro x hm
        have := HGB.out
        have := HGN.out
        simp only [List.mem_cons, Option.mem_toList] at hm
        rcases hm with e | e
        · omega
        · have := HOB.out x (by simpa using e); omega)
      clear HOB HN
      go_wp2_with fail
      go_at_call 13
      refine Calls.mono HSF.out ?_
      rintro e W1 ⟨rfl, hB1⟩
      have h1 := HA.out.below hB1
      have D1 := double_full (b + 1) b ob v _ (fun _ => none) q m W1 h1 (by simp) HLQ.out
      have HD1 := Lib.hid D1
      have H1 := Lib.hid h1
      have HB1 := Lib.hid (HB.out.trans (hB1.mono HB.out.size))
      clear D1 h1 hB1 HA HB HSF n0 n1 n2 n3 n4 n5 n6 n7 n8 n9 n10 n11 n12 n13
      go_wp2_with fail
      go_at_call 14
      refine Calls.mono HD1.out ?_
      rintro e W2 ⟨rfl, hB2⟩
      have h2 := H1.out.below hB2
      have D2 := lose_ok (b + 1) b ob v _ (fun _ => none) q m W2 h2 HLQ.out
      have HD2 := Lib.hid D2
      have HB2 := Lib.hid (HB1.out.trans (hB2.mono HB1.out.size))
      clear D2 h2 hB2 H1 HB1 HD1
      go_wp2_with fail
      go_at_call 15
      refine Calls.mono HD2.out ?_
      rintro e W3 ⟨rfl, v3, h3, hf3⟩
      rw [show (List.replicate 1024 m).eraseIdx q = List.replicate 1023 m from repl_erase 1023 q m hq] at h3
      have D3 := airLen_any (b + 1) b ob v3 _ (fun _ => none) W3 h3
      have D4 := double_ok (b + 1) b ob v3 _ (fun _ => none) 0 m W3 h3 (by simp) (by simp)
      rw [List.length_replicate] at D3
      rw [← List.replicate_succ'] at D4
      have HD3 := Lib.hid D3
      have HD4 := Lib.hid D4
      have HB3 := Lib.hid (HB2.out.trans (hf3.below HB2.out.size HO.out))
      clear D3 D4 h3 hf3 HB2 HD2 HLQ
      go_wp2_with fail
      go_at_call 11
      refine Calls.mono HD3.out ?_
      rintro e w' ⟨rfl, rfl⟩
      go_wp2_with fail
      go_at_call 14
      refine Calls.mono HD4.out ?_
      rintro e W4 ⟨rfl, ob4, v4, h4, hf4, ho4⟩
      have D5 := clear_ok (b + 1) b (some ob4) v4 _ (fun _ => none) 255 W4 h4 (by simp) (by simp) (by
        intro x hx
        rw [(List.mem_replicate.1 hx).2, HM.out])
      rw [List.length_replicate] at D5
      have HD5 := Lib.hid D5
      have HB4 := Lib.hid (HB3.out.trans (hf4.below HB3.out.size HO.out))
      clear D5 h4 hf4 ho4 HB3 HD4 HD3
      go_wp2_with fail
      go_at_call 16
      refine Calls.mono HD5.out ?_
      rintro e W5 ⟨rfl, h5, hf5⟩
      have D6 := airLen_any (b + 1) b none (.slice none 0 0) [] (fun _ => none) W5 h5
      have HD6 := Lib.hid D6
      have HB5 := Lib.hid (HB4.out.trans (hf5.below HB4.out.size (by have := HGB.out; have := HGN.out; simp; omega)))
      clear D6 h5 hf5 HB4 HD5
      go_wp2_with fail
      go_at_call 11
      refine Calls.mono HD6.out ?_
      rintro e w' ⟨rfl, rfl⟩
      go_wp2_with fail
      go_at_call 8
      refine (airwakes_any _).mono ?_
      rintro e W6 ⟨rfl, hB6⟩
      have HB6 := Lib.hid (HB5.out.trans (hB6.mono HB5.out.size))
      clear hB6
      go_wp2_with fail
      go_ret
      exact ⟨rfl, HB6.out⟩
end Go.Proofs.Ytokhdpokcfkfpaa
