/-
  Answers by package wire, as bytes and back.
-/
import Derived.Test.YtiednacpmlilbaaDoorWa
import Derived.Test.YtiednacpmlilbaaDoorWw1
import Derived.Test.YtiednacpmlilbaaDoorWr2
import Derived.Test.YtiednacpmlilbaaDoorWfa
namespace Go.Proofs.YtiednacpmlilbaaDoor
open Go.RowKit
set_option linter.unusedSimpArgs false
set_option linter.unusedVariables false

theorem vd_frB {y lo B : Nat} {bs : List Nat} {W2 W3 : World} {f : WF} {u : Value} {d : WD} {cs : Array Value} {ty : TypeId} (h : CD (eyeS y lo bs) W2 f u d) (hf : Fr [B] W2 W3) (hb : Blk W2 B cs ty) (ht : ty ≠ 5) (hB : lo ≤ B) : VD W3 f u d := by
  cases f <;> cases d <;> first | exact h | skip
  obtain ⟨a, b, o, c, rfl, h1, h2⟩ := h
  refine ⟨a, b, o, c, rfl, ⟨h1.le, h1.max, fun h0 => ⟨(h1.at_ h0).1, Nat.lt_of_lt_of_le (h1.at_ h0).2 hf.size⟩, fun k hk => ?_, h1.bd⟩⟩
  have hne : b ≠ B := by
    rcases h2 (by omega) with h | ⟨cs', k1, _⟩
    · have h : b < lo := h
      omega
    · exact ne_ty k1 hb (Ne.symm ht)
  have := h1.cell k hk
  unfold World.cell? at this ⊢
  rw [hf.block b (h1.at_ (by omega)).2 (by simpa using hne)]
  exact this
theorem ent_hAnswer : EntK 64 := fun _ _ => by kernel_rfl
set_option maxRecDepth 100000 in
set_option maxHeartbeats 8000000 in
/-- as bytes -/
theorem wAnswer_any (W : World) (cs : Array Value) (ds : List WD) (hcs : cs.size = 5) (hd : VDs W cs answerW ds) (hl : (encFs answerW ds).length ≤ 1000000000) :
    Calls Tryd.prog 28 #[.agg cs] W fun e W' => ∃ v, e = .returned v ∧ BV W' v (encFs answerW ds) ∧ Below W.heap.size W W' := by
  obtain ⟨W1, hW1⟩ : ∃ X, X = W.alloc (.cells cs 48) := ⟨_, rfl⟩
  obtain ⟨B, hB⟩ : ∃ B, B = W.heap.size := ⟨_, rfl⟩
  have b1 : Below W.heap.size W W1 := by rw [hW1]; exact alloc_b _ _
  have k1 : Blk W1 B cs 48 := by rw [hW1, hB]; exact blk_new _ _ _
  have hw := write_Answer W1 cs 64 (encFs answerW ds) ent_hAnswer hcs (fun W2 g p h2 hg hp hb hI => by
    have hsta : StA (penS p) W2 48 g 0 0 answerW ds := sta_pen hb hp h2 (by omega) (hd.below b1).1 fun i f d h1 h3 => by rw [Nat.zero_add]; exact (hd.below b1).2 i f d h1 h3
    refine Calls.mono (answer_form (pen_hand p) W2 [] 48 g 0 ds hI hsta (pen_pre p hd.okF (by simpa using hl)) ⟨by decide, by decide, by decide, by decide, by decide⟩) ?_
    rintro e W' ⟨h1, h3⟩
    rw [pen_run p (okFs_len hd.okF), List.nil_append] at h3
    exact ⟨h3.1, pen_anyA h1, h3.2.1⟩)
  obtain ⟨c0, c1, c2, c3, c4, hcx⟩ := len5 (show cs.toList.length = 5 by simpa using hcs)
  obtain rfl : cs = #[c0, c1, c2, c3, c4] := by apply Array.ext'; rw [hcx]
  clear hcx hcs
  have x0 : W1.cell? ⟨B, 0, none⟩ = some c0 := cell_at k1 0
  have x1 : W1.cell? ⟨B, 1, none⟩ = some c1 := cell_at k1 1
  have x2 : W1.cell? ⟨B, 2, none⟩ = some c2 := cell_at k1 2
  have x3 : W1.cell? ⟨B, 3, none⟩ = some c3 := cell_at k1 3
  have x4 : W1.cell? ⟨B, 4, none⟩ = some c4 := cell_at k1 4
  have HW := Lib.hid hw
  have HB := Lib.hid b1
  clear hw b1 k1 hd hl
  go_enter Tryd.func28, Tryd.ntmps28
  go_upto_region 1 with fail
  rw [← hB, ← hW1]
  clear hW1 hB
  go_wp2_with (refine Calls.mono HW.out ?_; rintro e W2 ⟨v, rfl, hv, h2⟩; have HE := Lib.hid (And.intro hv (HB.out.trans (h2.mono HB.out.size))); clear hv h2)
  try go_wp2_with fail
  go_ret
  exact ⟨v, rfl, HE.out⟩
set_option maxRecDepth 100000 in
set_option maxHeartbeats 8000000 in
/-- and back -/
theorem rAnswer_any (W : World) (v : Value) (bs : List Nat) (hv : BV W v bs) (hlen : bs.length ≤ 1048576) :
    Calls Tryd.prog 23 #[v] W fun e W' => Below W.heap.size W W' ∧ match readFs answerW bs with
      | .error a => e = .returned (.tuple #[.agg #[.int .i64 0, .int .i64 0, .int .i64 0, .int .i64 0, .int .i64 0], .int .i64 (a : Nat), .int .i64 50])
      | .ok xs => ∃ cs, e = .returned (.tuple #[.agg cs, .int .i64 0, .int .i64 0]) ∧ cs.size = 5 ∧ VDs W' cs answerW xs := by
  obtain ⟨W1, hW1⟩ : ∃ X, X = W.alloc (.cells #[.int .i64 0, .int .i64 0, .int .i64 0, .int .i64 0, .int .i64 0] 48) := ⟨_, rfl⟩
  obtain ⟨B, hB⟩ : ∃ B, B = W.heap.size := ⟨_, rfl⟩
  have b1 : Below W.heap.size W W1 := by rw [hW1]; exact alloc_b _ _
  have k1 : Blk W1 B #[.int .i64 0, .int .i64 0, .int .i64 0, .int .i64 0, .int .i64 0] 48 := by rw [hW1, hB]; exact blk_new _ _ _
  have hbl : BL W.heap.size W1 v bs := by
    obtain ⟨a, b, o, c, rfl, hby⟩ := hv.below b1
    obtain ⟨a', b', o', c', e, hby'⟩ := hv
    injection e with e1 e2 e3
    subst e1 e3
    refine ⟨a, b', o', c, rfl, hby'.below b1, fun h => (hby'.at_ h).2⟩
  have hr := read_Answer (α := List WD) W1 W.heap.size b1.size v bs 64 (swE (decFs bs 0 answerW)) (fun W' X y xs => StA (eyeS y W.heap.size bs) W' 48 X 0 0 answerW xs ∧ X ≠ y ∧ xs.length = 5) (by exact fun _ _ => by kernel_rfl) hbl hlen (fun W2 X y h2 hXy hX hb hI => by
      have hsta : StA (eyeS y W.heap.size bs) W2 48 X 0 0 answerW (zeroL answerW) := sta_zero (i := 0) (base := 0) hb (show X ≠ y ∧ W.heap.size ≤ X from ⟨hXy, by have := b1.size; omega⟩) (by decide) (fun k f hk => by match k, hk with | 0, hk => cases hk; rfl | 1, hk => cases hk; rfl | 2, hk => cases hk; rfl | 3, hk => cases hk; rfl | 4, hk => cases hk; rfl | k + 5, hk => simp [answerW] at hk)
      refine Calls.mono (answer_form eye_hand W2 0 48 X 0 (zeroL answerW) hI hsta (eye_pre _ _ _) ⟨by decide, by decide, by decide, by decide, by decide⟩) ?_
      intro e W' h
      rw [eye_run y W.heap.size bs (by rfl)] at h
      refine ⟨h.1, ?_⟩
      have h2 := h.2
      rcases hd : decFs bs 0 answerW with a | ⟨xs, s⟩
      · rw [hd] at h2; exact h2
      · rw [hd] at h2
        exact ⟨h2.1, h2.2.1, h2.2.2, hXy, show xs.length = 5 from h2.2.2.len⟩)
    (fun Wa Wb X y xs _ hF hk => ⟨hk.1.fr hF (fun _ _ _ => id), hk.2⟩)
    (fun W' X y xs cs hk hb i u hi hu => by
      obtain ⟨f, d, _, _, h3⟩ := eye_cells hk.1 hb i u hi hu
      exact cd_one h3)
  have HR := Lib.hid hr
  have HB1 := Lib.hid b1
  have HK1 := Lib.hid k1
  have HBB := Lib.hid hB
  clear hr b1 k1 hbl hv
  rcases hd : decFs bs 0 answerW with a | ⟨xs, s⟩
  · have HC := Lib.hid (show Calls Tryd.prog 63 #[v, .func (.func 64) #[] #[]] W1 (fun e W' => FB W.heap.size W1 W' ∧ e = .returned (.tuple #[.agg #[.int .i64 0, .int .i64 0, .int .i64 0, .int .i64 0, .int .i64 0], .int .i64 (a : Nat), .int .i64 50])) from Calls.mono HR.out fun e W' h => ⟨h.1, by have h2 := h.2; rw [hd] at h2; exact h2⟩)
    rw [show readFs answerW bs = .error a from by unfold readFs; rw [hd]]
    clear hd HR
    show Calls Tryd.prog _ _ W fun e W' => Below W.heap.size W W' ∧ e = .returned (.tuple #[.agg #[.int .i64 0, .int .i64 0, .int .i64 0, .int .i64 0, .int .i64 0], .int .i64 (a : Nat), .int .i64 50])
    go_enter Tryd.func23, Tryd.ntmps23
    go_upto_region 1 with fail
    rw [← hB, ← hW1]
    clear hW1 hB
    go_wp2_with (refine Calls.mono HC.out ?_; rintro e W2 ⟨hfb, rfl⟩; have kb2 := hfb.2 B _ _ HK1.out.lt HK1.out; have x0 : W2.cell? ⟨B, 0, none⟩ = some (.int .i64 0) := cell_at kb2 0; have x1 : W2.cell? ⟨B, 1, none⟩ = some (.int .i64 0) := cell_at kb2 1; have x2 : W2.cell? ⟨B, 2, none⟩ = some (.int .i64 0) := cell_at kb2 2; have x3 : W2.cell? ⟨B, 3, none⟩ = some (.int .i64 0) := cell_at kb2 3; have x4 : W2.cell? ⟨B, 4, none⟩ = some (.int .i64 0) := cell_at kb2 4; have xf : ∀ j, W2.frozen? ⟨B, j, none⟩ = false := (fun j => free_at kb2 j); have xl : B < W2.heap.size := kb2.lt; have HFB := Lib.hid hfb; have KB2 := Lib.hid kb2; clear hfb kb2)
    obtain ⟨W3, hW3⟩ : ∃ Y, Y = ((((W2.setCell ⟨B, 0, none⟩ (.int .i64 0)).setCell ⟨B, 1, none⟩ (.int .i64 0)).setCell ⟨B, 2, none⟩ (.int .i64 0)).setCell ⟨B, 3, none⟩ (.int .i64 0)).setCell ⟨B, 4, none⟩ (.int .i64 0) := ⟨_, rfl⟩
    rw [← hW3]
    have kb2 := KB2.out
    have kb3 : Blk W3 B #[.int .i64 0, .int .i64 0, .int .i64 0, .int .i64 0, .int .i64 0] 48 := by rw [hW3]; exact (((((kb2.set 0 _).set 1 _).set 2 _).set 3 _).set 4 _)
    have hf3 : Fr [B] W2 W3 := by rw [hW3]; exact ((((((Fr.refl _ _).setCell _ (.inl (by simp)) _).setCell _ (.inl (by simp)) _).setCell _ (.inl (by simp)) _).setCell _ (.inl (by simp)) _).setCell _ (.inl (by simp)) _)
    have hbel : Below W.heap.size W W3 := HB1.out.trans (HFB.out.1.trans (hf3.below (Nat.le_trans HB1.out.size HFB.out.1.size) (by have := HBB.out; simp; omega)))
    have z0 : W3.cell? ⟨B, 0, none⟩ = some (.int .i64 0) := cell_at kb3 0
    have z1 : W3.cell? ⟨B, 1, none⟩ = some (.int .i64 0) := cell_at kb3 1
    have z2 : W3.cell? ⟨B, 2, none⟩ = some (.int .i64 0) := cell_at kb3 2
    have z3 : W3.cell? ⟨B, 3, none⟩ = some (.int .i64 0) := cell_at kb3 3
    have z4 : W3.cell? ⟨B, 4, none⟩ = some (.int .i64 0) := cell_at kb3 4
    have HEND := Lib.hid hbel
    clear hbel hf3 kb3 kb2 hW3 x0 x1 x2 x3 x4 xf xl
    try go_wp2_with fail
    try rw [Exit.noGoto_ret]
    exact bodyPost_ret (v := .tuple #[.agg #[.int .i64 0, .int .i64 0, .int .i64 0, .int .i64 0, .int .i64 0], .int .i64 (a : Nat), .int .i64 50]) (by simp [results, Tryd.results23, go_sem, z0, z1, z2, z3, z4]) rfl ⟨HEND.out, rfl⟩
  · by_cases hs : s < bs.length
    · have HC := Lib.hid (show Calls Tryd.prog 63 #[v, .func (.func 64) #[] #[]] W1 (fun e W' => FB W.heap.size W1 W' ∧ e = .returned (.tuple #[.agg #[.int .i64 0, .int .i64 0, .int .i64 0, .int .i64 0, .int .i64 0], .int .i64 (s : Nat), .int .i64 50])) from Calls.mono HR.out fun e W' h => ⟨h.1, by have h2 := h.2; rw [hd] at h2; exact h2.1 hs⟩)
      clear HR
      rw [show readFs answerW bs = .error s from by unfold readFs; rw [hd]; show (if s < bs.length then Except.error s else Except.ok xs) = _; rw [if_pos hs]]
      clear hd
      show Calls Tryd.prog _ _ W fun e W' => Below W.heap.size W W' ∧ e = .returned (.tuple #[.agg #[.int .i64 0, .int .i64 0, .int .i64 0, .int .i64 0, .int .i64 0], .int .i64 (s : Nat), .int .i64 50])
      go_enter Tryd.func23, Tryd.ntmps23
      go_upto_region 1 with fail
      rw [← hB, ← hW1]
      clear hW1 hB
      go_wp2_with (refine Calls.mono HC.out ?_; rintro e W2 ⟨hfb, rfl⟩; have kb2 := hfb.2 B _ _ HK1.out.lt HK1.out; have x0 : W2.cell? ⟨B, 0, none⟩ = some (.int .i64 0) := cell_at kb2 0; have x1 : W2.cell? ⟨B, 1, none⟩ = some (.int .i64 0) := cell_at kb2 1; have x2 : W2.cell? ⟨B, 2, none⟩ = some (.int .i64 0) := cell_at kb2 2; have x3 : W2.cell? ⟨B, 3, none⟩ = some (.int .i64 0) := cell_at kb2 3; have x4 : W2.cell? ⟨B, 4, none⟩ = some (.int .i64 0) := cell_at kb2 4; have xf : ∀ j, W2.frozen? ⟨B, j, none⟩ = false := (fun j => free_at kb2 j); have xl : B < W2.heap.size := kb2.lt; have HFB := Lib.hid hfb; have KB2 := Lib.hid kb2; clear hfb kb2)
      obtain ⟨W3, hW3⟩ : ∃ Y, Y = ((((W2.setCell ⟨B, 0, none⟩ (.int .i64 0)).setCell ⟨B, 1, none⟩ (.int .i64 0)).setCell ⟨B, 2, none⟩ (.int .i64 0)).setCell ⟨B, 3, none⟩ (.int .i64 0)).setCell ⟨B, 4, none⟩ (.int .i64 0) := ⟨_, rfl⟩
      rw [← hW3]
      have kb2 := KB2.out
      have kb3 : Blk W3 B #[.int .i64 0, .int .i64 0, .int .i64 0, .int .i64 0, .int .i64 0] 48 := by rw [hW3]; exact (((((kb2.set 0 _).set 1 _).set 2 _).set 3 _).set 4 _)
      have hf3 : Fr [B] W2 W3 := by rw [hW3]; exact ((((((Fr.refl _ _).setCell _ (.inl (by simp)) _).setCell _ (.inl (by simp)) _).setCell _ (.inl (by simp)) _).setCell _ (.inl (by simp)) _).setCell _ (.inl (by simp)) _)
      have hbel : Below W.heap.size W W3 := HB1.out.trans (HFB.out.1.trans (hf3.below (Nat.le_trans HB1.out.size HFB.out.1.size) (by have := HBB.out; simp; omega)))
      have z0 : W3.cell? ⟨B, 0, none⟩ = some (.int .i64 0) := cell_at kb3 0
      have z1 : W3.cell? ⟨B, 1, none⟩ = some (.int .i64 0) := cell_at kb3 1
      have z2 : W3.cell? ⟨B, 2, none⟩ = some (.int .i64 0) := cell_at kb3 2
      have z3 : W3.cell? ⟨B, 3, none⟩ = some (.int .i64 0) := cell_at kb3 3
      have z4 : W3.cell? ⟨B, 4, none⟩ = some (.int .i64 0) := cell_at kb3 4
      have HEND := Lib.hid hbel
      clear hbel hf3 kb3 kb2 hW3 x0 x1 x2 x3 x4 xf xl
      try go_wp2_with fail
      try rw [Exit.noGoto_ret]
      exact bodyPost_ret (v := .tuple #[.agg #[.int .i64 0, .int .i64 0, .int .i64 0, .int .i64 0, .int .i64 0], .int .i64 (s : Nat), .int .i64 50]) (by simp [results, Tryd.results23, go_sem, z0, z1, z2, z3, z4]) rfl ⟨HEND.out, rfl⟩
    · have HC := Lib.hid (show Calls Tryd.prog 63 #[v, .func (.func 64) #[] #[]] W1 (fun e W' => FB W.heap.size W1 W' ∧ ∃ X y cs, e = .returned (.tuple #[.agg cs, .int .i64 0, .int .i64 0]) ∧ (StA (eyeS y W.heap.size bs) W' 48 X 0 0 answerW xs ∧ X ≠ y ∧ xs.length = 5) ∧ Blk W' X cs 48 ∧ cs.size = 5 ∧ W1.heap.size ≤ X ∧ X ≠ y) from Calls.mono HR.out fun e W' h => ⟨h.1, by have h2 := h.2; rw [hd] at h2; exact h2.2 hs⟩)
      clear HR
      rw [show readFs answerW bs = .ok xs from by unfold readFs; rw [hd]; show (if s < bs.length then Except.error s else Except.ok xs) = _; rw [if_neg hs]]
      clear hd
      show Calls Tryd.prog _ _ W fun e W' => Below W.heap.size W W' ∧ ∃ cs, e = .returned (.tuple #[.agg cs, .int .i64 0, .int .i64 0]) ∧ cs.size = 5 ∧ VDs W' cs answerW xs
      go_enter Tryd.func23, Tryd.ntmps23
      go_upto_region 1 with fail
      rw [← hB, ← hW1]
      clear hW1 hB
      go_wp2_with (refine Calls.mono HC.out ?_; rintro e W2 ⟨hfb, X, y, cs, rfl, hk, hbx, hcn, hX, hXy⟩; obtain ⟨c0, c1, c2, c3, c4, hcx⟩ := len5 (show cs.toList.length = 5 by simpa using hcn); obtain rfl : cs = #[c0, c1, c2, c3, c4] := (by apply Array.ext'; rw [hcx]); clear hcx hcn; have hone : (∀ (i : Nat) u, i < 5 → (#[c0, c1, c2, c3, c4] : Array Value)[i]? = some u → u.oneCell' = true) := (fun i u hi hu => by obtain ⟨f, d, _, _, h3⟩ := eye_cells hk.1 hbx i u hi hu; exact cd_one h3); have st0 : ∀ p m w, (store p c0 m).run Tryd.prog w = stored Tryd.prog w p c0 m := (fun p m w => run_store Tryd.prog w p c0 m (hone 0 c0 (by decide) rfl)); have st1 : ∀ p m w, (store p c1 m).run Tryd.prog w = stored Tryd.prog w p c1 m := (fun p m w => run_store Tryd.prog w p c1 m (hone 1 c1 (by decide) rfl)); have st2 : ∀ p m w, (store p c2 m).run Tryd.prog w = stored Tryd.prog w p c2 m := (fun p m w => run_store Tryd.prog w p c2 m (hone 2 c2 (by decide) rfl)); have st3 : ∀ p m w, (store p c3 m).run Tryd.prog w = stored Tryd.prog w p c3 m := (fun p m w => run_store Tryd.prog w p c3 m (hone 3 c3 (by decide) rfl)); have st4 : ∀ p m w, (store p c4 m).run Tryd.prog w = stored Tryd.prog w p c4 m := (fun p m w => run_store Tryd.prog w p c4 m (hone 4 c4 (by decide) rfl)); have kb2 := hfb.2 B _ _ HK1.out.lt HK1.out; have x0 : W2.cell? ⟨B, 0, none⟩ = some (.int .i64 0) := cell_at kb2 0; have x1 : W2.cell? ⟨B, 1, none⟩ = some (.int .i64 0) := cell_at kb2 1; have x2 : W2.cell? ⟨B, 2, none⟩ = some (.int .i64 0) := cell_at kb2 2; have x3 : W2.cell? ⟨B, 3, none⟩ = some (.int .i64 0) := cell_at kb2 3; have x4 : W2.cell? ⟨B, 4, none⟩ = some (.int .i64 0) := cell_at kb2 4; have xf : ∀ j, W2.frozen? ⟨B, j, none⟩ = false := (fun j => free_at kb2 j); have xl : B < W2.heap.size := kb2.lt; have HFB := Lib.hid hfb; have HKK := Lib.hid hk; have HBX := Lib.hid hbx; have HXX := Lib.hid hX; have KB2 := Lib.hid kb2; clear hfb hk hbx hX hXy hone kb2)
      obtain ⟨W3, hW3⟩ : ∃ Y, Y = ((((W2.setCell ⟨B, 0, none⟩ c0).setCell ⟨B, 1, none⟩ c1).setCell ⟨B, 2, none⟩ c2).setCell ⟨B, 3, none⟩ c3).setCell ⟨B, 4, none⟩ c4 := ⟨_, rfl⟩
      rw [← hW3]
      have kb2 := KB2.out
      have kb3 : Blk W3 B #[c0, c1, c2, c3, c4] 48 := by rw [hW3]; exact (((((kb2.set 0 _).set 1 _).set 2 _).set 3 _).set 4 _)
      have hf3 : Fr [B] W2 W3 := by rw [hW3]; exact ((((((Fr.refl _ _).setCell _ (.inl (by simp)) _).setCell _ (.inl (by simp)) _).setCell _ (.inl (by simp)) _).setCell _ (.inl (by simp)) _).setCell _ (.inl (by simp)) _)
      have hvd : VDs W3 #[c0, c1, c2, c3, c4] answerW xs := ⟨show xs.length = 5 from HKK.out.2.2, fun i f d h1 h2 => by
        have hi : i < 5 := (List.getElem?_eq_some_iff.1 h1).1
        obtain ⟨u, hu⟩ : ∃ u, (#[c0, c1, c2, c3, c4] : Array Value)[i]? = some u := ⟨_, Array.getElem?_eq_getElem (by exact hi)⟩
        obtain ⟨f', d', e1, e2, h3⟩ := eye_cells HKK.out.1 HBX.out i u hi hu
        obtain rfl := Option.some.inj (h1.symm.trans e1)
        obtain rfl := Option.some.inj (h2.symm.trans e2)
        exact ⟨u, hu, vd_frB h3 hf3 kb2 (by decide) (by show W.heap.size ≤ B; rw [HBB.out]; exact Nat.le_refl _)⟩⟩
      have hbel : Below W.heap.size W W3 := HB1.out.trans (HFB.out.1.trans (hf3.below (Nat.le_trans HB1.out.size HFB.out.1.size) (by have := HBB.out; simp; omega)))
      have z0 : W3.cell? ⟨B, 0, none⟩ = some c0 := cell_at kb3 0
      have z1 : W3.cell? ⟨B, 1, none⟩ = some c1 := cell_at kb3 1
      have z2 : W3.cell? ⟨B, 2, none⟩ = some c2 := cell_at kb3 2
      have z3 : W3.cell? ⟨B, 3, none⟩ = some c3 := cell_at kb3 3
      have z4 : W3.cell? ⟨B, 4, none⟩ = some c4 := cell_at kb3 4
      have HEND := Lib.hid (And.intro hbel hvd)
      clear hvd hbel hf3 kb3 kb2 hW3 x0 x1 x2 x3 x4 xf xl st0 st1 st2 st3 st4
      try go_wp2_with fail
      try rw [Exit.noGoto_ret]
      exact bodyPost_ret (v := .tuple #[.agg #[c0, c1, c2, c3, c4], .int .i64 0, .int .i64 0]) (by simp [results, Tryd.results23, go_sem, z0, z1, z2, z3, z4]) rfl ⟨HEND.out.1, _, rfl, rfl, HEND.out.2⟩
end Go.Proofs.YtiednacpmlilbaaDoor
