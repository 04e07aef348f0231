/-
  The document's reader: ReadEntry.
-/
import Derived.Test.YtiednacpmlilbaaDoorWq6
namespace Go.Proofs.YtiednacpmlilbaaDoor
open Go.RowKit
set_option linter.unusedSimpArgs false
set_option linter.unusedVariables false

theorem vd_one {W : World} {f : WF} {v : Value} {d : WD} (h : VD W f v d) : v.oneCell' = true := by
  cases f <;> cases d <;> first | exact h.elim | skip
  · obtain ⟨rfl, _⟩ := h; rfl
  · obtain ⟨rfl, _⟩ := h; rfl
  · obtain ⟨rfl, _⟩ := h; rfl
  · obtain ⟨b, rfl, _⟩ := h; rfl
  · obtain ⟨a, b, o, c, rfl, _⟩ := h; rfl
theorem vds_one {W : World} {cs : Array Value} {fs : List WF} {ds : List WD} (h : VDs W cs fs ds) (i : Nat) (u : Value) (hi : i < fs.length) (hu : cs[i]? = some u) : u.oneCell' = true := by
  obtain ⟨f, hf⟩ : ∃ f, fs[i]? = some f := ⟨_, List.getElem?_eq_getElem hi⟩
  obtain ⟨d, hd⟩ : ∃ d, ds[i]? = some d := ⟨_, List.getElem?_eq_getElem (by rw [h.1]; exact hi)⟩
  obtain ⟨v, h1, h2⟩ := h.2 i f d hf hd
  rw [hu] at h1
  obtain rfl := Option.some.inj h1
  exact vd_one h2
theorem end_read (bs : List Nat) (fs : List WF) : match readFs fs bs with
    | .error a => endS bs.length (rdFs bs fs (.ok 0)).2 = (a, 50)
    | .ok xs => endS bs.length (rdFs bs fs (.ok 0)).2 = (0, 0) ∧ (rdFs bs fs (.ok 0)).1 = xs := by
  unfold readFs
  have h := rdFs_ok bs fs 0
  rcases hd : decFs bs 0 fs with a | ⟨xs, s⟩
  · simp only
    rw [h.2 a hd]
    rfl
  · simp only
    rw [h.1 xs s hd]
    by_cases hs : s < bs.length
    · rw [if_pos hs]
      simp only
      unfold endS
      simp only
      rw [if_pos hs]
    · rw [if_neg hs]
      simp only
      unfold endS
      simp only
      rw [if_neg hs]
      exact ⟨rfl, by first | rfl | trivial⟩
set_option maxRecDepth 100000 in
set_option maxHeartbeats 8000000 in
theorem rrEntry_any (W : World) (v : Value) (bs : List Nat) (hv : BV W v bs) (hlen : bs.length ≤ 1048576) :
    Calls Tryd.prog 11 #[v] W fun e W' => Below W.heap.size W W' ∧ match readFs entryW bs with
      | .error a => e = .returned (.tuple #[.agg #[.int .i64 0, .int .i8 0, .int .i64 0, .int .u8 0, .slice none 0 0], .int .i64 (a : Nat), .int .i64 50])
      | .ok xs => ∃ cs, e = .returned (.tuple #[.agg cs, .int .i64 0, .int .i64 0]) ∧ cs.size = 5 ∧ VDs W' cs entryW xs := by
  obtain ⟨W1, hW1⟩ : ∃ X, X = W.alloc (.cells #[.int .i64 0, .int .i8 0, .int .i64 0, .int .u8 0, .slice none 0 0] 25) := ⟨_, rfl⟩
  obtain ⟨B, hB⟩ : ∃ B, B = W.heap.size := ⟨_, rfl⟩
  have b1 : Below W.heap.size W W1 := by rw [hW1]; exact alloc_b _ _
  have k1 : Blk W1 B #[.int .i64 0, .int .i8 0, .int .i64 0, .int .u8 0, .slice none 0 0] 25 := by rw [hW1, hB]; exact blk_new _ _ _
  have hbl : BL W.heap.size W1 v bs := by
    obtain ⟨a, b, o, c, rfl, h1⟩ := hv
    exact ⟨a, b, o, c, rfl, h1.below b1, fun h0 => (h1.at_ h0).2⟩
  have hshape : ∃ a n c, v = .slice a n c := by obtain ⟨a, _, _, c, e, _⟩ := hv; exact ⟨a, _, c, e⟩
  obtain ⟨va, vn, vc, rfl⟩ := hshape
  have HC1 := Lib.hid (rbegin_any (lo := W.heap.size) W1 _ hbl b1.size hlen)
  have HER := Lib.hid (end_read bs entryW)
  obtain ⟨S5, hS5⟩ : ∃ S5, S5 = (rdFs bs entryW (.ok 0)).2 := ⟨_, rfl⟩
  obtain ⟨ds, hds⟩ : ∃ ds, ds = (rdFs bs entryW (.ok 0)).1 := ⟨_, rfl⟩
  have HG2 := Lib.hid (fun R WX (hr : RdIn R W.heap.size bs WX (.ok 0)) => rent_any WX (.ok 0) hr)
  rw [← hS5, ← hds] at HG2 HER
  have HG3 := Lib.hid (fun R WX (hr : RdIn R W.heap.size bs WX S5) => rend_any WX S5 hr)
  obtain ⟨a9, ha9⟩ : ∃ x, x = (endS bs.length S5).1 := ⟨_, rfl⟩
  obtain ⟨er, her⟩ : ∃ x, x = (endS bs.length S5).2 := ⟨_, rfl⟩
  rw [← ha9, ← her] at HG3
  have HAE := Lib.hid (And.intro ha9 her)
  have HB1 := Lib.hid b1
  have HK1 := Lib.hid k1
  have HBB := Lib.hid hB
  obtain ⟨RF, hRF⟩ : ∃ RF, RF = readFs entryW bs := ⟨_, rfl⟩
  rw [← hRF] at HER ⊢
  clear hS5 hds ha9 her b1 k1 hbl hv hRF
  have hcase : er = 50 ∨ er = 0 := by
    rw [HAE.out.2]
    unfold endS
    cases S5 with
    | error e => exact .inl rfl
    | ok s => simp only; split <;> simp
  have HCASE := Lib.hid hcase
  go_enter Tryd.func11, Tryd.ntmps11
  go_upto_region 1 with fail
  rw [← hB, ← hW1]
  clear hW1 hB
  go_wp2_with (refine Calls.mono HC1.out ?_; rintro e W2 ⟨R, rfl, hr2, hb2, hR2⟩; have HC2 := Lib.hid (HG2.out R W2 hr2); have HKB2 := Lib.hid (HK1.out.step hb2); have HB2 := Lib.hid hb2; have HR2 := Lib.hid hR2; have HRL := Lib.hid (show R < W2.heap.size from by obtain ⟨_, h9, _⟩ := hr2; exact h9.lt); clear hr2 hb2 hR2 HC1)
  refine Calls.mono HC2.out ?_
  rintro e W3 ⟨cs, rfl, hcn, hvd, hr3, hf3⟩
  obtain ⟨c0, c1, c2, c3, c4, hcx⟩ := len5 (show cs.toList.length = 5 by simpa using hcn)
  obtain rfl : cs = #[c0, c1, c2, c3, c4] := by apply Array.ext'; rw [hcx]
  clear hcx hcn
  have hv3 := hvd [] W3 (by simp) (Fr.refl _ _)
  have hone : ∀ (i : Nat) u, i < 5 → (#[c0, c1, c2, c3, c4] : Array Value)[i]? = some u → u.oneCell' = true := fun i u hi hu => vds_one hv3 i u hi hu
  have st0 : ∀ p m w, (store p c0 m).run Tryd.prog w = stored Tryd.prog w p c0 m := (fun p m w => run_store Tryd.prog w p c0 m (hone 0 c0 (by decide) rfl))
  have st1 : ∀ p m w, (store p c1 m).run Tryd.prog w = stored Tryd.prog w p c1 m := (fun p m w => run_store Tryd.prog w p c1 m (hone 1 c1 (by decide) rfl))
  have st2 : ∀ p m w, (store p c2 m).run Tryd.prog w = stored Tryd.prog w p c2 m := (fun p m w => run_store Tryd.prog w p c2 m (hone 2 c2 (by decide) rfl))
  have st3 : ∀ p m w, (store p c3 m).run Tryd.prog w = stored Tryd.prog w p c3 m := (fun p m w => run_store Tryd.prog w p c3 m (hone 3 c3 (by decide) rfl))
  have st4 : ∀ p m w, (store p c4 m).run Tryd.prog w = stored Tryd.prog w p c4 m := (fun p m w => run_store Tryd.prog w p c4 m (hone 4 c4 (by decide) rfl))
  have HHR := Lib.hid hr3
  have HHF := Lib.hid hf3
  have HVD := Lib.hid hvd
  have HV3 := Lib.hid hv3
  clear hone hr3 hf3 hvd hv3 HC2
  go_upto_region 5 with fail
  obtain ⟨Y, hY⟩ : ∃ Y, Y = W3.heap.size := ⟨_, rfl⟩
  obtain ⟨W4, hW4⟩ : ∃ A, A = W3.alloc (.cells #[c0, c1, c2, c3, c4] 25) := ⟨_, rfl⟩
  rw [← hY, ← hW4]
  have b4 : Below W3.heap.size W3 W4 := by rw [hW4]; exact alloc_b _ _
  have ky4 : Blk W4 Y #[c0, c1, c2, c3, c4] 25 := by rw [hW4, hY]; exact blk_new _ _ _
  have hBR : B ≠ R ∧ B < R := by have := HBB.out; have := HR2.out; have := HB1.out.size; have := HK1.out.lt; omega
  have hYR : Y ≠ R := by have := HRL.out; have := HHF.out.size; omega
  have kb4 : Blk W4 B #[.int .i64 0, .int .i8 0, .int .i64 0, .int .u8 0, .slice none 0 0] 25 := Blk.step (show Blk W3 B #[.int .i64 0, .int .i8 0, .int .i64 0, .int .u8 0, .slice none 0 0] 25 from (HHF.out.block B HKB2.out.lt (by simp; exact hBR.1)).trans HKB2.out) b4
  have HC5 := Lib.hid (HG3.out R W4 (HHR.out.below b4))
  have HB34 := Lib.hid b4
  have HBR := Lib.hid hBR
  have HYR := Lib.hid hYR
  have HKY4 := Lib.hid ky4
  have HKB4 := Lib.hid kb4
  have hYB : Y ≠ B := by have := HKB2.out.lt; have := HHF.out.size; omega
  have HYB := Lib.hid hYB
  clear b4 ky4 kb4 hBR hYR hW4 hY hYB
  have HFIN := Lib.hid (fun W6 (h6 : ∀ W5, Fr [R] W4 W5 → Fr [B] W5 W6 → Below W.heap.size W W6 ∧ VDs W6 #[c0, c1, c2, c3, c4] entryW ds) => h6)
  have HCOM := Lib.hid (fun W5 W6 (h5 : Fr [R] W4 W5) (h6 : Fr [B] W5 W6) => show Below W.heap.size W W6 ∧ VDs W6 #[c0, c1, c2, c3, c4] entryW ds from by
    have e1 := HB1.out
    have e2 := HB2.out.mono e1.size
    have hR := HR2.out
    have s3 := HHF.out.size
    have e3 := HHF.out.below (B := W.heap.size) (Nat.le_trans e1.size HB2.out.size) (by simp; have := e1.size; omega)
    have e4 := HB34.out.mono (Nat.le_trans e1.size (Nat.le_trans HB2.out.size s3))
    have z4 : W.heap.size ≤ W4.heap.size := Nat.le_trans e1.size (Nat.le_trans HB2.out.size (Nat.le_trans s3 HB34.out.size))
    have e5 := h5.below (B := W.heap.size) z4 (by simp; have := e1.size; omega)
    have e6 := h6.below (B := W.heap.size) (Nat.le_trans z4 h5.size) (by simp; have := HBB.out; omega)
    refine ⟨e1.trans (e2.trans (e3.trans (e4.trans (e5.trans e6)))), HVD.out [R, B] W6 ?_ ?_⟩
    · intro x hx
      simp at hx
      have := HRL.out
      have := HKB2.out.lt
      rcases hx with rfl | rfl <;> omega
    · exact ((fr_below HB34.out).tr (h5.wk (by simp))).tr (h6.wk (by simp)))
  rcases HCASE.out with h50 | h00
  · have n1 : ((er : Int) != 0) = true := by rw [h50]; decide
    have hRFE : ∃ a, RF = .error a ∧ a = a9 := by
      have h9 := HER.out
      cases RF with
      | error a => exact ⟨a, rfl, by have h8 := HAE.out.1; rw [show endS bs.length S5 = (a, 50) from h9] at h8; exact h8.symm⟩
      | ok xs => exfalso; have h8 := HAE.out.2; rw [show endS bs.length S5 = (0, 0) from h9.1] at h8; rw [h50] at h8; cases h8
    obtain ⟨aa, rfl, rfl⟩ := hRFE
    clear HFIN
    subst h50
    go_wp2_with (refine Calls.mono HC5.out ?_; rintro r W5 ⟨rfl, h5⟩; have kb5 : Blk W5 B #[.int .i64 0, .int .i8 0, .int .i64 0, .int .u8 0, .slice none 0 0] 25 := (h5.block B HKB4.out.lt (by simp; exact HBR.out.1)).trans HKB4.out; have ky5 : Blk W5 Y #[c0, c1, c2, c3, c4] 25 := (h5.block Y HKY4.out.lt (by simp; exact HYR.out)).trans HKY4.out; have x0 : W5.cell? ⟨B, 0, none⟩ = some (.int .i64 0) := cell_at kb5 0; have x1 : W5.cell? ⟨B, 1, none⟩ = some (.int .i8 0) := cell_at kb5 1; have x2 : W5.cell? ⟨B, 2, none⟩ = some (.int .i64 0) := cell_at kb5 2; have x3 : W5.cell? ⟨B, 3, none⟩ = some (.int .u8 0) := cell_at kb5 3; have x4 : W5.cell? ⟨B, 4, none⟩ = some (.slice none 0 0) := cell_at kb5 4; have yy0 : W5.cell? ⟨Y, 0, none⟩ = some c0 := cell_at ky5 0; have yy1 : W5.cell? ⟨Y, 1, none⟩ = some c1 := cell_at ky5 1; have yy2 : W5.cell? ⟨Y, 2, none⟩ = some c2 := cell_at ky5 2; have yy3 : W5.cell? ⟨Y, 3, none⟩ = some c3 := cell_at ky5 3; have yy4 : W5.cell? ⟨Y, 4, none⟩ = some c4 := cell_at ky5 4; have xf : ∀ j, W5.frozen? ⟨B, j, none⟩ = false := (fun j => free_at kb5 j); have xl : B < W5.heap.size := kb5.lt; have KB5 := Lib.hid kb5; have KY5 := Lib.hid ky5; have H5 := Lib.hid h5; clear kb5 ky5 h5 HC5)
    obtain ⟨W6, hW6⟩ : ∃ A, A = ((((W5.setCell ⟨B, 0, none⟩ (.int .i64 0)).setCell ⟨B, 1, none⟩ (.int .i8 0)).setCell ⟨B, 2, none⟩ (.int .i64 0)).setCell ⟨B, 3, none⟩ (.int .u8 0)).setCell ⟨B, 4, none⟩ (.slice none 0 0) := ⟨_, rfl⟩
    rw [← hW6]
    have kb6 : Blk W6 B #[.int .i64 0, .int .i8 0, .int .i64 0, .int .u8 0, .slice none 0 0] 25 := by rw [hW6]; exact (((((KB5.out.set 0 _).set 1 _).set 2 _).set 3 _).set 4 _)
    have hf6 : Fr [B] W5 W6 := by rw [hW6]; exact ((((((Fr.refl [B] W5).setCell _ (.inl (by simp)) _).setCell _ (.inl (by simp)) _).setCell _ (.inl (by simp)) _).setCell _ (.inl (by simp)) _).setCell _ (.inl (by simp)) _)
    have hcom := HCOM.out W5 W6 H5.out hf6
    have z0 : W6.cell? ⟨B, 0, none⟩ = some (.int .i64 0) := cell_at kb6 0
    have z1 : W6.cell? ⟨B, 1, none⟩ = some (.int .i8 0) := cell_at kb6 1
    have z2 : W6.cell? ⟨B, 2, none⟩ = some (.int .i64 0) := cell_at kb6 2
    have z3 : W6.cell? ⟨B, 3, none⟩ = some (.int .u8 0) := cell_at kb6 3
    have z4 : W6.cell? ⟨B, 4, none⟩ = some (.slice none 0 0) := cell_at kb6 4
    have HEND := Lib.hid hcom.1
    clear hcom hf6 kb6 hW6 x0 yy0 x1 yy1 x2 yy2 x3 yy3 x4 yy4 xf xl st0 st1 st2 st3 st4
    try go_wp2_with fail
    try rw [Exit.noGoto_ret]
    refine bodyPost_ret (v := .tuple #[.agg #[.int .i64 0, .int .i8 0, .int .i64 0, .int .u8 0, .slice none 0 0], .int .i64 (aa : Nat), .int .i64 50]) (by simp [results, Tryd.results11, go_sem, z0, z1, z2, z3, z4]) rfl ⟨HEND.out, ?_⟩
    rfl
  · have n1 : ((er : Int) != 0) = false := by rw [h00]; decide
    have hRFE : ∃ xs, RF = .ok xs ∧ ds = xs := by
      have h9 := HER.out
      cases RF with
      | error a => exfalso; have h8 := HAE.out.2; rw [show endS bs.length S5 = (a, 50) from h9] at h8; rw [h00] at h8; cases h8
      | ok xs => exact ⟨xs, rfl, h9.2⟩
    obtain ⟨xs, rfl, rfl⟩ := hRFE
    clear HFIN
    subst h00
    have nYB : Y ≠ B := HYB.out
    have nBY : B ≠ Y := fun h => HYB.out h.symm
    go_wp2_with (refine Calls.mono HC5.out ?_; rintro r W5 ⟨rfl, h5⟩; have kb5 : Blk W5 B #[.int .i64 0, .int .i8 0, .int .i64 0, .int .u8 0, .slice none 0 0] 25 := (h5.block B HKB4.out.lt (by simp; exact HBR.out.1)).trans HKB4.out; have ky5 : Blk W5 Y #[c0, c1, c2, c3, c4] 25 := (h5.block Y HKY4.out.lt (by simp; exact HYR.out)).trans HKY4.out; have x0 : W5.cell? ⟨B, 0, none⟩ = some (.int .i64 0) := cell_at kb5 0; have x1 : W5.cell? ⟨B, 1, none⟩ = some (.int .i8 0) := cell_at kb5 1; have x2 : W5.cell? ⟨B, 2, none⟩ = some (.int .i64 0) := cell_at kb5 2; have x3 : W5.cell? ⟨B, 3, none⟩ = some (.int .u8 0) := cell_at kb5 3; have x4 : W5.cell? ⟨B, 4, none⟩ = some (.slice none 0 0) := cell_at kb5 4; have yy0 : W5.cell? ⟨Y, 0, none⟩ = some c0 := cell_at ky5 0; have yy1 : W5.cell? ⟨Y, 1, none⟩ = some c1 := cell_at ky5 1; have yy2 : W5.cell? ⟨Y, 2, none⟩ = some c2 := cell_at ky5 2; have yy3 : W5.cell? ⟨Y, 3, none⟩ = some c3 := cell_at ky5 3; have yy4 : W5.cell? ⟨Y, 4, none⟩ = some c4 := cell_at ky5 4; have xf : ∀ j, W5.frozen? ⟨B, j, none⟩ = false := (fun j => free_at kb5 j); have xl : B < W5.heap.size := kb5.lt; have KB5 := Lib.hid kb5; have KY5 := Lib.hid ky5; have H5 := Lib.hid h5; clear kb5 ky5 h5 HC5)
    obtain ⟨W6, hW6⟩ : ∃ A, A = ((((W5.setCell ⟨B, 0, none⟩ c0).setCell ⟨B, 1, none⟩ c1).setCell ⟨B, 2, none⟩ c2).setCell ⟨B, 3, none⟩ c3).setCell ⟨B, 4, none⟩ c4 := ⟨_, rfl⟩
    rw [← hW6]
    have kb6 : Blk W6 B #[c0, c1, c2, c3, c4] 25 := by rw [hW6]; exact (((((KB5.out.set 0 _).set 1 _).set 2 _).set 3 _).set 4 _)
    have hf6 : Fr [B] W5 W6 := by rw [hW6]; exact ((((((Fr.refl [B] W5).setCell _ (.inl (by simp)) _).setCell _ (.inl (by simp)) _).setCell _ (.inl (by simp)) _).setCell _ (.inl (by simp)) _).setCell _ (.inl (by simp)) _)
    have hcom := HCOM.out W5 W6 H5.out hf6
    have z0 : W6.cell? ⟨B, 0, none⟩ = some c0 := cell_at kb6 0
    have z1 : W6.cell? ⟨B, 1, none⟩ = some c1 := cell_at kb6 1
    have z2 : W6.cell? ⟨B, 2, none⟩ = some c2 := cell_at kb6 2
    have z3 : W6.cell? ⟨B, 3, none⟩ = some c3 := cell_at kb6 3
    have z4 : W6.cell? ⟨B, 4, none⟩ = some c4 := cell_at kb6 4
    have HEND := Lib.hid hcom
    clear hcom hf6 kb6 hW6 x0 yy0 x1 yy1 x2 yy2 x3 yy3 x4 yy4 xf xl st0 st1 st2 st3 st4
    try go_wp2_with fail
    try rw [Exit.noGoto_ret]
    refine bodyPost_ret (v := .tuple #[.agg #[c0, c1, c2, c3, c4], .int .i64 0, .int .i64 0]) (by simp [results, Tryd.results11, go_sem, z0, z1, z2, z3, z4]) rfl ⟨HEND.out.1, ?_⟩
    exact ⟨_, rfl, rfl, HEND.out.2⟩
end Go.Proofs.YtiednacpmlilbaaDoor
