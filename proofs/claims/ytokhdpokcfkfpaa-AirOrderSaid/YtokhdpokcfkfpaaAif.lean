/-
  AirOrder, walked.
-/
import Derived.Test.YtokhdpokcfkfpaaAie
namespace Go.Proofs.Ytokhdpokcfkfpaa
open Go.RowKit
set_option linter.unusedSimpArgs false
set_option linter.unusedVariables false

set_option maxRecDepth 100000 in
set_option maxHeartbeats 32000000 in
theorem order_walk (a0 : Int) (p : Option Addr) (len cap bs os : Nat) (S : Nat → Int) (w : World) (hs : IntsIn w p len cap bs os S) (hl : len ≤ 60) :
    Calls Try.prog 5 #[.int .i64 a0, .slice p len cap] w fun e w' => e = .returned (.bool true) ∧ Below w.heap.size w w' := by
  obtain ⟨q0, q1⟩ := wmod_bd a0 60 (by omega) (by omega)
  have m1 := hs.le
  have m2 := hs.max
  unfold maxLen at m2
  have HS := Lib.hid hs
  clear hs
  obtain ⟨b, hb⟩ : ∃ b, b = w.heap.size := ⟨_, rfl⟩
  have NW := airNew_any w
  rw [← hb] at NW
  have HNW := Lib.hid NW
  have HGW := Lib.hid hb
  clear NW hb
  go_enter Try.func5, Try.ntmps5
  go_upto_region 4 with fail
  generalize (wrap64 (a0.tmod 60 + 60)).tmod 60 = Q0 at q0 q1 ⊢
  obtain ⟨nn, rfl⟩ : ∃ nn : Nat, Q0 = nn := ⟨Q0.toNat, by omega⟩
  have hnn : nn < 60 := by omega
  clear q0 q1
  go_wp2_with fail
  go_at_call 9
  refine Calls.mono HNW.out ?_
  rintro e W1 ⟨rfl, h1, hw1⟩
  have HI1 : Hid (OrdI w W1 b none (.slice none 0 0) [] (.slice none 0 0) none []) := Lib.hid ⟨HGW.out, h1, RowI.nil _, by simp, by simp, by simp, by rw [HGW.out] at hw1; exact hw1⟩
  clear h1 hw1 HNW
  go_wp2_with fail
  go_loopw [6, 7] (fun v6 v7 wr => ∃ (k : Nat) (obm : Option Nat) (vm : Value) (obl : Option Nat) (X : List Int), k ≤ nn ∧ v7 = .int .i64 k ∧ X.length = k ∧ OrdI w wr b obm vm X v6 obl X) (fun _ vi _ => nn - (intOf vi).toNat)
  case atStart => exact ⟨0, _, _, _, [], Nat.zero_le _, rfl, rfl, HI1.out⟩
  case round =>
    clear HI1
    obtain ⟨k, obm, vm, obl, X, hk, rfl, hX, hI⟩ := hrel
    have HX := Lib.hid hX
    have HI := Lib.hid hI
    clear hX hI
    by_cases hlt : k < nn
    · have SD := send_ok (b + 1) b obm vm _ _ ⟨1, 2, 0, (k : Int)⟩ wr HI.out.air (by rw [List.length_map, HX.out]; omega) rfl
      rw [mkI_push] at SD
      have HSD := Lib.hid SD
      clear SD
      go_wp2_with fail
      go_at_call 13
      refine Calls.mono HSD.out ?_
      rintro e W3 ⟨rfl, ob3, v3, h3, hf3, ho3⟩
      have HI3 := Lib.hid (HI.out.air' h3 hf3 (by intro x hx; obtain rfl := Option.some.inj hx; exact ho3))
      clear h3 hf3 ho3 HSD HI
      go_upto_region 11 with fail
      go_wp2_with (at_builtin; refine wpList_append_ints _ rfl (.tmp 36) (.tmp 38) rfl _ obl X [(k : Int)] rfl (HI3.out.below ((Below.refl _ _).alloc (Nat.le_refl _) _)).row (some ⟨W3.heap.size, 0, none⟩) 1 1 W3.heap.size 0 rfl rfl (fun _ => rfl) (by intro j y hy; obtain ⟨rfl, rfl⟩ : j = 0 ∧ (k : Int) = y := (by cases j with | zero => exact ⟨rfl, by simpa using hy⟩ | succ j => simp at hy); exact cell_at (blk_new W3 #[.int .i64 (k : Int)] 3) 0) (by rw [HX.out]; simp; omega) ?_; intro v6 ob6 W6 hr6 hf6 ho6; have HI6 := Lib.hid ((HI3.out.below ((Below.refl _ _).alloc (Nat.le_refl _) (.cells #[.int .i64 (k : Int)] 3))).row' hr6 hf6 (fun x hx => by simpa using hx) ho6); clear hr6 hf6 ho6 HI3)
      go_roundw
      case rel => exact ⟨k + 1, _, _, _, _, by omega, by go_num, by rw [List.length_append, HX.out]; rfl, HI6.out⟩
      case measure => first | (simp [intOf]; done) | (simp [intOf]; omega)
    · obtain rfl : k = nn := by omega
      go_wp2_with fail
      go_loopw [6, 8] (fun v6 v8 wr => ∃ (q : Nat) (obm : Option Nat) (vm : Value) (obl : Option Nat) (X : List Int), q ≤ len ∧ v8 = .int .i64 q ∧ X.length ≤ 60 ∧ OrdI w wr b obm vm X v6 obl X) (fun _ vi _ => len - (intOf vi).toNat)
      case atStart => exact ⟨0, _, _, _, X, Nat.zero_le _, rfl, by rw [HX.out]; omega, HI.out⟩
      case round =>
        clear HI HX
        obtain ⟨q, obm, vm, obl, X, hq, rfl, hX, hI⟩ := hrel
        by_cases hgo : q < len ∧ 0 < X.length
        · obtain ⟨g1, g2⟩ := hgo
          obtain ⟨r, cl, rfl, rfl, cl1, cl2⟩ := hI.row.shape1 g2
          unfold maxLen at cl2
          have HI := Lib.hid hI
          obtain ⟨nX, hnX⟩ : ∃ nX, nX = X.length := ⟨_, rfl⟩
          rw [← hnX] at cl1 hX g2
          rw [← hnX]
          have HNX := Lib.hid hnX
          clear hI hnX
          obtain ⟨e2, e3⟩ := (HS.out.below HI.out.bel).at_ (by omega)
          subst e2
          have cs := (HS.out.below HI.out.bel).cell q g1
          obtain ⟨y, hy⟩ : ∃ y, y = S q := ⟨_, rfl⟩
          rw [← hy] at cs
          have hz : ((nX : Int) = 0) = False := eq_false (by omega)
          obtain ⟨r0, r1⟩ := wmod_bd y nX (by omega) (by omega)
          clear hy
          go_upto_region 16 with fail
          generalize (wrap64 (y.tmod nX + nX)).tmod nX = KI at r0 r1 ⊢
          obtain ⟨K, rfl⟩ : ∃ K : Nat, KI = K := ⟨KI.toNat, by omega⟩
          have hK : K < nX := by omega
          clear r0 r1 cs hz
          obtain ⟨xk, hxk⟩ : ∃ xk, X[K]? = some xk := ⟨X[K]'(by rw [← HNX.out]; exact hK), by simp [← HNX.out, hK]⟩
          have HXK := Lib.hid hxk
          have D := deliver_ok (b + 1) b obm vm (X.map mkI) (fun _ => none) K ⟨1, 2, 0, xk⟩ wr HI.out.air (mkI_at X K xk hxk) rfl
          rw [mkI_erase] at D
          have HD := Lib.hid D
          clear D hxk
          go_wp2_with fail
          go_at_call 17
          refine Calls.mono HD.out ?_
          rintro e X1 ⟨rfl, v1, h1, hf1⟩
          have HI1 := Lib.hid (HI.out.air' h1 hf1 (fun x hx => .inl hx))
          clear h1 hf1 HD HI
          go_upto_region 17 with fail
          obtain ⟨N, hN⟩ : ∃ N, N = X1.heap.size := ⟨_, rfl⟩
          obtain ⟨Y1, hY1⟩ : ∃ Y, Y = X1.alloc (.cells #[.int .i8 0, .int .i64 1, .int .i64 2, .int .i64 0, .int .i64 xk, .int .i64 0, .int .i64 0, .bool false, .slice none 0 0, .int .i64 0, .int .i64 0, .int .u8 0, .slice none 0 0, .slice none 0 0] 39) := ⟨_, rfl⟩
          have hXY1 : Below X1.heap.size X1 Y1 := by rw [hY1]; exact (Below.refl _ _).alloc (Nat.le_refl _) _
          have HI2 := Lib.hid (HI1.out.below hXY1)
          have m4 : Y1.cell? ⟨N, 4, none⟩ = some (.int .i64 xk) := by rw [hY1, hN]; exact cell_at (blk_new X1 #[.int .i8 0, .int .i64 1, .int .i64 2, .int .i64 0, .int .i64 xk, .int .i64 0, .int .i64 0, .bool false, .slice none 0 0, .int .i64 0, .int .i64 0, .int .u8 0, .slice none 0 0, .slice none 0 0] 39) 4
          obtain ⟨r', er, lK⟩ := HI2.out.row.cell K xk HXK.out
          obtain rfl := Option.some.inj er
          clear er
          rw [← hN]
          change Code.wp _ _ _ _ (X1.alloc (.cells #[.int .i8 0, .int .i64 1, .int .i64 2, .int .i64 0, .int .i64 xk, .int .i64 0, .int .i64 0, .bool false, .slice none 0 0, .int .i64 0, .int .i64 0, .int .u8 0, .slice none 0 0, .slice none 0 0] 39))
          rw [← hY1]
          clear hN hY1 hXY1 HI1
          have hw2 : (K < nX) = True := eq_true hK
          go_wp2_with fail
          have lK1 : Y1.drew.cell? ⟨r, K, none⟩ = some (.int .i64 xk) := lK
          go_region
          all_goals
            obtain ⟨W4, hW4⟩ : ∃ W4, W4 = Y1.drew := ⟨_, rfl⟩
            rw [← hW4]
            have HI4 := Lib.hid (HI2.out.below (hW4 ▸ (Below.refl _ _).drew))
            clear hW4 lK lK1 m4 HI2
            have hln : 0 ≤ (K : Int) ∧ (K : Int) ≤ cl := by omega
            go_upto_region 21 with (at_builtin; refine wpList_append_ints _ rfl (.tmp 86) (.tmp 89) rfl _ none [] (X.take K) rfl (RowI.nil _) (some ⟨r, 0, none⟩) K cl r 0 (by rw [List.length_take, ← HNX.out]; omega) rfl (fun _ => rfl) (by intro j y hy; rw [List.getElem?_take] at hy; split at hy; obtain ⟨r', er, q⟩ := HI4.out.row.cell j y hy; obtain rfl := Option.some.inj er; rw [Nat.zero_add]; exact q; cases hy) (by rw [List.length_take, ← HNX.out]; simp; omega) ?_; intro v5 ob5 W5 hr5 hf5 ho5; rw [List.nil_append] at hr5; have HB45 := Lib.hid hf5.below0; have HI5 := Lib.hid (HI4.out.below hf5.below0); have HR5 := Lib.hid hr5; have HO5 := Lib.hid ho5; clear hr5 hf5 ho5)
            have hw1 : IntKind.i64.wrap ((K : Int) + 1) = (K : Int) + 1 := IntWalk.i64_in _ (by omega)
            have hln2 : 0 ≤ (K : Int) + 1 ∧ (K : Int) + 1 ≤ nX ∧ (nX : Int) ≤ cl := by omega
            go_wp2_with (at_builtin; refine wpList_append_ints _ rfl (.tmp 91) (.tmp 95) rfl _ ob5 (X.take K) (X.drop (K + 1)) rfl HR5.out _ _ _ r (K + 1) (by rw [List.length_drop, ← HNX.out]) rfl (fun h0 => if_neg (by rw [List.length_drop, ← HNX.out] at h0; omega)) (by intro j y hy; rw [List.getElem?_drop] at hy; obtain ⟨r', er, q⟩ := HI5.out.row.cell (K + 1 + j) y hy; obtain rfl := Option.some.inj er; exact q) (by rw [List.length_take, List.length_drop, ← HNX.out]; omega) ?_; intro v7 ob7 W7 hr7 hf7 ho7; rw [← List.eraseIdx_eq_take_drop_succ] at hr7; have HI7 := Lib.hid (HI4.out.row' hr7 ((Fr.of_below HB45.out).trans hf7 (fun x hx => .inr (by rcases HO5.out x (by simpa using hx) with e | e; exact nomatch e; exact e))) (by simp) (fun x hx => .inr (by rcases ho7 x hx with e | e; (rcases HO5.out x e with e2 | e2; exact nomatch e2; exact e2); have := HB45.out.size; omega))); clear hr7 hf7 ho7 HI5 HR5 HO5 HB45 HI4)
            go_roundw
            case rel => exact ⟨q + 1, _, _, _, _, by omega, by go_num, (by have := HNX.out; rw [List.length_eraseIdx]; split <;> omega), HI7.out⟩
            case measure => first | (simp [intOf]; done) | (simp [intOf]; omega)
        · obtain ⟨ad, cl, rfl, had, cl1, cl2⟩ := hI.row.shape2
          unfold maxLen at cl2
          obtain ⟨nX, hnX⟩ : ∃ nX, nX = X.length := ⟨_, rfl⟩
          rw [← hnX] at cl1 hX had hgo hI
          rw [← hnX]
          have HI := Lib.hid hI
          have HNX := Lib.hid hnX
          have HAD := Lib.hid had
          clear hI hnX had
          by_cases hq2 : q < len
          · have h0 : nX = 0 := by omega
            have hw5 : (0 < (nX : Int)) = False := eq_false (by omega)
            go_wp2_with fail
            go_loopw [14] (fun v14 wr => ∃ (j : Nat), j ≤ nX ∧ v14 = .int .i64 j ∧ OrdI w wr b obm vm X (.slice ad nX cl) obl X) (fun vi _ => nX - (intOf vi).toNat)
            case atStart => exact ⟨0, Nat.zero_le _, rfl, HI.out⟩
            case round =>
              clear HI
              obtain ⟨j, hj, rfl, hI⟩ := hrel
              have HI := Lib.hid hI
              clear hI
              by_cases hjl : j < nX
              · exact absurd hjl (by omega)
              · obtain rfl : j = nX := by omega
                have LN := airLen_any (b + 1) b obm vm (X.map mkI) (fun _ => none) wr HI.out.air
                rw [List.length_map, ← HNX.out] at LN
                have HLN := Lib.hid LN
                clear LN
                go_wp2_with fail
                go_at_call 11
                refine Calls.mono HLN.out ?_
                rintro e w' ⟨rfl, rfl⟩
                go_wp2_with fail
                go_at_call 8
                refine (airwakes_any _).mono ?_
                rintro e X6 ⟨rfl, hB6⟩
                have HB6 := Lib.hid (HI.out.bel.trans (hB6.mono HI.out.bel.size))
                clear hB6 HI
                go_wp2_with fail
                go_ret
                exact ⟨rfl, HB6.out⟩
          · obtain rfl : q = len := by omega
            go_wp2_with fail
            go_loopw [14] (fun v14 wr => ∃ (j : Nat), j ≤ nX ∧ v14 = .int .i64 j ∧ OrdI w wr b obm vm X (.slice ad nX cl) obl X) (fun vi _ => nX - (intOf vi).toNat)
            case atStart => exact ⟨0, Nat.zero_le _, rfl, HI.out⟩
            case round =>
              clear HI
              obtain ⟨j, hj, rfl, hI⟩ := hrel
              have HI := Lib.hid hI
              clear hI
              by_cases hjl : j < nX
              · obtain ⟨r, rfl, rfl⟩ := HAD.out (by omega)
                obtain ⟨xk, hxk⟩ : ∃ xk, X[j]? = some xk := ⟨X[j]'(by rw [← HNX.out]; exact hjl), by simp [← HNX.out, hjl]⟩
                have HXK := Lib.hid hxk
                have LO := look_ok (b + 1) b obm vm (X.map mkI) (fun _ => none) j ⟨1, 2, 0, xk⟩ wr HI.out.air (mkI_at X j xk hxk)
                have HLO := Lib.hid LO
                clear LO hxk
                go_wp2_with fail
                go_at_call 18
                refine Calls.mono HLO.out ?_
                rintro e X1 ⟨rfl, hB1⟩
                have HI1 := Lib.hid (HI.out.below hB1)
                clear hB1 HLO HI
                go_upto_region 26 with fail
                obtain ⟨N, hN⟩ : ∃ N, N = X1.heap.size := ⟨_, rfl⟩
                obtain ⟨Y1, hY1⟩ : ∃ Y, Y = X1.alloc (.cells #[.int .i8 0, .int .i64 1, .int .i64 2, .int .i64 0, .int .i64 xk, .int .i64 0, .int .i64 0, .bool false, .slice none 0 0, .int .i64 0, .int .i64 0, .int .u8 0, .slice none 0 0, .slice none 0 0] 39) := ⟨_, rfl⟩
                have hXY1 : Below X1.heap.size X1 Y1 := by rw [hY1]; exact (Below.refl _ _).alloc (Nat.le_refl _) _
                have HI2 := Lib.hid (HI1.out.below hXY1)
                have m4 : Y1.cell? ⟨N, 4, none⟩ = some (.int .i64 xk) := by rw [hY1, hN]; exact cell_at (blk_new X1 #[.int .i8 0, .int .i64 1, .int .i64 2, .int .i64 0, .int .i64 xk, .int .i64 0, .int .i64 0, .bool false, .slice none 0 0, .int .i64 0, .int .i64 0, .int .u8 0, .slice none 0 0, .slice none 0 0] 39) 4
                obtain ⟨r', er, lK⟩ := HI2.out.row.cell j xk HXK.out
                obtain rfl := Option.some.inj er
                clear er
                rw [← hN]
                change Code.wp _ _ _ _ (X1.alloc (.cells #[.int .i8 0, .int .i64 1, .int .i64 2, .int .i64 0, .int .i64 xk, .int .i64 0, .int .i64 0, .bool false, .slice none 0 0, .int .i64 0, .int .i64 0, .int .u8 0, .slice none 0 0, .slice none 0 0] 39))
                rw [← hY1]
                clear hN hY1 hXY1 HI1
                have hw2 : (j < nX) = True := eq_true hjl
                go_wp2_with fail
                have lK1 : Y1.drew.cell? ⟨r, j, none⟩ = some (.int .i64 xk) := lK
                go_region
                all_goals
                  obtain ⟨W4, hW4⟩ : ∃ W4, W4 = Y1.drew := ⟨_, rfl⟩
                  rw [← hW4]
                  have HI4 := Lib.hid (HI2.out.below (hW4 ▸ (Below.refl _ _).drew))
                  clear hW4 lK lK1 m4 HI2
                  go_wp2_with fail
                  go_roundw
                  case rel => exact ⟨j + 1, by omega, by go_num, HI4.out⟩
                  case measure => first | (simp [intOf]; done) | (simp [intOf]; omega)
              · obtain rfl : j = nX := by omega
                have LN := airLen_any (b + 1) b obm vm (X.map mkI) (fun _ => none) wr HI.out.air
                rw [List.length_map, ← HNX.out] at LN
                have HLN := Lib.hid LN
                clear LN
                go_wp2_with fail
                go_at_call 11
                refine Calls.mono HLN.out ?_
                rintro e w' ⟨rfl, rfl⟩
                go_wp2_with fail
                go_at_call 8
                refine (airwakes_any _).mono ?_
                rintro e X6 ⟨rfl, hB6⟩
                have HB6 := Lib.hid (HI.out.bel.trans (hB6.mono HI.out.bel.size))
                clear hB6 HI
                go_wp2_with fail
                go_ret
                exact ⟨rfl, HB6.out⟩
end Go.Proofs.Ytokhdpokcfkfpaa
