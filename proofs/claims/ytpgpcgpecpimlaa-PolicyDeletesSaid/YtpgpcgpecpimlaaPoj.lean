/-
  Tenants deleted by a closure.
-/
import Derived.Test.YtpgpcgpecpimlaaPoi
import Derived.Test.YtpgpcgpecpimlaaPo2
import Derived.Deep.RegionLaw
namespace Go.Proofs.Ytpgpcgpecpimlaa
open Go.RowKit
set_option linter.unusedSimpArgs false
set_option linter.unusedVariables false

theorem row_facts {W : World} {v : Value} {g n i : Nat} {M : List TnE} {y : TnE} (h : Row W v (some g) 72 5 n (listL M)) (hM : M.length = n) (hi : i < n) (hy : y = gt M i) : W.cell? ⟨g, i * 5, none⟩ = some (.int .i64 y.id) ∧ W.cell? ⟨g, i * 5 + 1, none⟩ = some (.int .i64 y.rate) ∧ W.cell? ⟨g, i * 5 + 2, none⟩ = some (.int .i64 y.burst) ∧ W.cell? ⟨g, i * 5 + 3, none⟩ = some (.int .i64 y.bkt) ∧ W.cell? ⟨g, i * 5 + 4, none⟩ = some (.bool y.gone) ∧ W.frozen? ⟨g, i * 5, none⟩ = false ∧ W.frozen? ⟨g, i * 5 + 1, none⟩ = false ∧ W.frozen? ⟨g, i * 5 + 2, none⟩ = false ∧ W.frozen? ⟨g, i * 5 + 3, none⟩ = false ∧ W.frozen? ⟨g, i * 5 + 4, none⟩ = false := by
  have hx : M[i]? = some y := by rw [hy]; exact gt_lt (by omega)
  have hc : ∀ q, q < 5 → W.cell? ⟨g, i * 5 + q, none⟩ = y.cells[q]? ∧ W.frozen? ⟨g, i * 5 + q, none⟩ = false := fun q hq => by
    obtain ⟨g', e, a, b⟩ := h.cell (i * 5 + q) (by omega)
    obtain rfl := Option.some.inj e
    rw [listL_at hx hq] at a
    exact ⟨a, b⟩
  exact ⟨(hc 0 (by omega)).1, (hc 1 (by omega)).1, (hc 2 (by omega)).1, (hc 3 (by omega)).1, (hc 4 (by omega)).1, (hc 0 (by omega)).2, (hc 1 (by omega)).2, (hc 2 (by omega)).2, (hc 3 (by omega)).2, (hc 4 (by omega)).2⟩
set_option maxRecDepth 100000 in
set_option maxHeartbeats 8000000 in
theorem deleteF_any (kf : FuncId) (cs : Array Value) (d : TnE → Bool) (v : Value) (ob : Option Nat) (L : List TnE) (w0 w : World) (h : Row w v ob 72 5 L.length (listL L)) (hok : okL L) (hob : ∀ g, ob = some g → w0.heap.size ≤ g) (hk : EntK kf) (CS : ClT kf cs d L w0) (h0 : Below w0.heap.size w0 w) (hn5 : L.length ≤ 200) :
    Calls Try.prog 105 #[v, .func (.func kf) #[] cs] w fun e w' => ∃ v' ob', e = .returned v' ∧ Row w' v' ob' 72 5 (L.filter fun x => !d x).length (listL (L.filter fun x => !d x)) ∧ (∀ g, ob' = some g → w0.heap.size ≤ g) ∧ Below w0.heap.size w0 w' := by
  have IX := Lib.hid (indexF_any kf cs d v L w0 w (tv_row h hok) hk CS h0)
  have HR := Lib.hid h
  have HOK := Lib.hid hok
  have HOB := Lib.hid hob
  have HCS := Lib.hid CS
  have H0 := Lib.hid h0
  obtain ⟨va, cap, rfl, u1, u2, uva⟩ := h.shape
  unfold maxLen at u2
  have HUV := Lib.hid uva
  clear h hok hob CS h0 uva
  obtain ⟨n, hn⟩ : ∃ n, n = L.length := ⟨_, rfl⟩
  have HN := Lib.hid hn
  rw [← hn] at u1 IX HR hn5 ⊢
  clear hn
  unfold EntK at hk
  go_enter Try.func105, Try.ntmps105
  go_wp2_with fail
  go_at_call 106
  refine Calls.mono IX.out ?_
  rintro e W1 ⟨⟨i, hi, hf, hc⟩, hB1⟩
  have HF := Lib.hid hf
  have HB1 := Lib.hid hB1
  clear hf hB1 IX
  rcases hc with ⟨hin, hdi, rfl⟩ | ⟨rfl, rfl⟩
  · have hg0 : ∃ g, ob = some g := by
      obtain ⟨g, hg, _⟩ := HR.out.cell 0 (by omega)
      exact ⟨g, hg⟩
    obtain ⟨g, rfl⟩ := hg0
    obtain rfl : va = some ⟨g, 0, none⟩ := HUV.out
    have HDI := Lib.hid hdi
    have HG : Hid (w0.heap.size ≤ g) := Lib.hid (HOB.out g rfl)
    have HR1 := Lib.hid (HR.out.congr (w' := W1) fun g' hg' => HB1.out.block g' (by obtain rfl := Option.some.inj hg'; exact HR.out.lt))
    have HB01 := Lib.hid (H0.out.trans (HB1.out.mono H0.out.size))
    have ni : ((i : Int) == -1) = false := by rw [beq_eq_false_iff_ne]; omega
    have ni2 : ((i : Int) = -1) = False := eq_false (by omega)
    have HS0 : Hid (L.take i = (L.take (i + 1)).filter fun x => !d x) := Lib.hid (by
      rw [List.take_add_one, gt_lt (by rw [← HN.out]; omega), List.filter_append]
      have e1 : (L.take i).filter (fun x => !d x) = L.take i := List.filter_eq_self.2 (fun x hx => by
        obtain ⟨j, hj, rfl⟩ := List.mem_iff_getElem.1 hx
        rw [List.length_take] at hj
        have := HF.out j (by omega)
        rw [List.getElem_take]
        rw [gt_of (List.getElem?_eq_getElem (by omega))] at this
        rw [this]
        rfl)
      rw [e1]
      simp [HDI.out])
    clear hdi HUV
    go_wp2_with fail
    go_loopw [5, 6] (fun u j wr => ∃ (i j' : Nat) (M : List TnE), i < j' ∧ j' ≤ n ∧ u = .int .i64 i ∧ j = .int .i64 j' ∧ M.length = n ∧ okL M ∧ Row wr (.slice (some ⟨g, 0, none⟩) n cap) (some g) 72 5 n (listL M) ∧ M.take i = (L.take j').filter (fun x => !d x) ∧ M.drop j' = L.drop j' ∧ Below w0.heap.size w0 wr) (fun _ j _ => n - (intOf j).toNat)
    case atStart => exact ⟨i, i + 1, L, by omega, by omega, rfl, by go_num, HN.out.symm, HOK.out, HR1.out, HS0.out, rfl, HB01.out⟩
    case round =>
      clear HS0 HB01 HR1 HDI HF HB1 ni ni2
      obtain ⟨i, j, M, hij, hjn, rfl, rfl, hM, hok, hr, ht, hdr, hB⟩ := hrel
      have HM := Lib.hid hM
      have HOKM := Lib.hid hok
      have HRM := Lib.hid hr
      have HT := Lib.hid ht
      have HDR := Lib.hid hdr
      have HB := Lib.hid hB
      clear hM hok hr ht hdr hB
      by_cases hlt : j < n
      · have hMj : gt M j = gt L j := by
          unfold gt
          have e1 : M[j]? = (M.drop j)[0]? := by rw [List.getElem?_drop]; rfl
          have e2 : L[j]? = (L.drop j)[0]? := by rw [List.getElem?_drop]; rfl
          rw [e1, e2, HDR.out]
        obtain ⟨x, hx⟩ : ∃ x, x = gt L j := ⟨_, rfl⟩
        rw [← hx] at hMj
        have HX := Lib.hid hx
        have HMJ := Lib.hid hMj
        obtain ⟨a9, c9, e9, hin9⟩ := tn_row (by rw [← HM.out, ← tnL_gt, HM.out]; exact HRM.out : Row wr _ (some g) 72 5 n (tnL (gt M) n)) (fun k hk => okL_gt HOKM.out k (by rw [HM.out]; exact hk))
        injection e9 with e91 _ e93
        subst e91 e93
        obtain ⟨c0, c1, c2, c3, c4⟩ := hin9.cell j hlt
        rw [hMj] at c0 c1 c2 c3 c4
        simp only [Option.getD_some, Nat.zero_add] at c0 c1 c2 c3 c4
        have gl := HRM.out.lt
        clear hx hMj hin9
        go_upto_region 8 with fail
        obtain ⟨K, hK9⟩ : ∃ K, K = wr.heap.size := ⟨_, rfl⟩
        obtain ⟨WX, hWX⟩ : ∃ W, W = wr.alloc (.cells #[.int .i64 x.id, .int .i64 x.rate, .int .i64 x.burst, .int .i64 x.bkt, .bool x.gone] 72) := ⟨_, rfl⟩
        have hbx : Below wr.heap.size wr WX := by rw [hWX]; exact (Below.refl _ _).alloc (Nat.le_refl _) _
        have hkx : Blk WX K #[.int .i64 x.id, .int .i64 x.rate, .int .i64 x.burst, .int .i64 x.bkt, .bool x.gone] 72 := by rw [hWX, hK9]; exact blk_new _ _ _
        have HKX := Lib.hid hkx
        have HBX := Lib.hid (HB.out.trans (hbx.mono HB.out.size))
        have HRX := Lib.hid (HRM.out.congr (w' := WX) fun g' hg' => hbx.block g' (by obtain rfl := Option.some.inj hg'; exact HRM.out.lt))
        have HGK : Hid (g < K) := Lib.hid (by rw [hK9]; exact gl)
        rw [← hK9, ← hWX]
        clear hK9 hWX hbx c0 c1 c2 c3 c4 gl
        have r0 : WX.cell? ⟨K, 0, none⟩ = some (.int .i64 x.id) := cell_at hkx 0
        have r1 : WX.cell? ⟨K, 1, none⟩ = some (.int .i64 x.rate) := cell_at hkx 1
        have r2 : WX.cell? ⟨K, 2, none⟩ = some (.int .i64 x.burst) := cell_at hkx 2
        have r3 : WX.cell? ⟨K, 3, none⟩ = some (.int .i64 x.bkt) := cell_at hkx 3
        have r4 : WX.cell? ⟨K, 4, none⟩ = some (.bool x.gone) := cell_at hkx 4
        have rl := hkx.lt
        have HC := Lib.hid (HCS.out x WX (by rw [HX.out]; exact List.mem_of_getElem? (gt_lt (by rw [← HN.out]; exact hlt))) HBX.out)
        obtain ⟨D, hD⟩ : ∃ D, D = d x := ⟨_, rfl⟩
        rw [← hD] at HC
        have HD := Lib.hid hD
        have hfs : (L.take (j + 1)).filter (fun x => !d x) = (L.take j).filter (fun x => !d x) ++ (if D then [] else [x]) := by
          rw [List.take_add_one, gt_lt (by rw [← HN.out]; exact hlt), List.filter_append, ← HX.out]
          simp only [Option.toList_some, List.filter_cons, List.filter_nil, ← hD]
          cases D <;> rfl
        have HFS := Lib.hid hfs
        have hds : M.drop (j + 1) = L.drop (j + 1) := by
          rw [← List.drop_drop (l := M), ← List.drop_drop (l := L), HDR.out]
        have HDS := Lib.hid hds
        clear hD hfs hkx hds
        cases D
        · go_wp2_with (refine Calls.mono HC.out ?_; rintro e W3 ⟨rfl, hB3⟩; have HB3 := Lib.hid (HBX.out.trans (hB3.mono HBX.out.size)); have HR3 := Lib.hid (HRX.out.congr (w' := W3) fun g' hg' => hB3.block g' (by obtain rfl := Option.some.inj hg'; exact HRX.out.lt)); have hk3 := HKX.out.step hB3; have s0 : W3.cell? ⟨K, 0, none⟩ = some (.int .i64 x.id) := cell_at hk3 0; have s1 : W3.cell? ⟨K, 1, none⟩ = some (.int .i64 x.rate) := cell_at hk3 1; have s2 : W3.cell? ⟨K, 2, none⟩ = some (.int .i64 x.burst) := cell_at hk3 2; have s3 : W3.cell? ⟨K, 3, none⟩ = some (.int .i64 x.bkt) := cell_at hk3 3; have s4 : W3.cell? ⟨K, 4, none⟩ = some (.bool x.gone) := cell_at hk3 4; have sl := hk3.lt; clear hB3 hk3 r0 r1 r2 r3 r4 rl; have gl3 := HR3.out.lt; obtain ⟨y, hy⟩ : ∃ y, y = gt M i := ⟨_, rfl⟩; obtain ⟨p0, p1, p2, p3, p4, q0, q1, q2, q3, q4⟩ := row_facts HR3.out HM.out (show i < n by omega) hy; clear hy)
          obtain ⟨W4, hW4⟩ : ∃ W4, W4 = W3.setCells g (i * 5) x.cells := ⟨_, rfl⟩
          have hch := hW4
          simp only [World.setCells, TnE.cells, Nat.add_assoc, Nat.reduceAdd] at hch
          have hfr := stC_fr g x.cells (i * 5) W3
          rw [← hW4] at hfr
          have HR4 := Lib.hid (show Row W4 _ (some g) 72 5 n (listL (M.set i x)) by rw [hW4]; exact row_set HR3.out HM.out (by omega))
          have HB4 := Lib.hid (HB3.out.trans (hfr.below HB3.out.size (by have := HG.out; simp; omega)))
          rw [← hch]
          clear hW4 hch hfr
          go_wp2_with fail
          go_roundw
          case rel => exact ⟨i + 1, j + 1, M.set i x, by omega, by omega, by go_num, by go_num, by rw [List.length_set]; exact HM.out, (fun z hz => by
              rcases List.mem_or_eq_of_mem_set hz with h | h
              · exact HOKM.out z h
              · rw [h, HX.out]; exact okL_gt HOK.out j (by rw [← HN.out]; exact hlt)), HR4.out, by
              rw [HFS.out, ← HT.out, List.take_add_one, List.getElem?_set_self (by rw [HM.out]; omega), List.take_set]
              rw [List.set_eq_of_length_le (by simp; omega)]
              rfl, by rw [List.drop_set_of_lt (by omega)]; exact HDS.out, HB4.out⟩
          case measure => first | (simp [intOf]; done) | (simp [intOf]; omega)
        · go_wp2_with (refine Calls.mono HC.out ?_; rintro e W3 ⟨rfl, hB3⟩; have HB3 := Lib.hid (HBX.out.trans (hB3.mono HBX.out.size)); have HR3 := Lib.hid (HRX.out.congr (w' := W3) fun g' hg' => hB3.block g' (by obtain rfl := Option.some.inj hg'; exact HRX.out.lt)); clear hB3 r0 r1 r2 r3 r4 rl)
          go_roundw
          case rel => exact ⟨i, j + 1, M, by omega, by omega, rfl, by go_num, HM.out, HOKM.out, HR3.out, by rw [HFS.out, ← HT.out]; exact (List.append_nil _).symm, HDS.out, HB3.out⟩
          case measure => first | (simp [intOf]; done) | (simp [intOf]; omega)
      · obtain rfl : j = n := by omega
        have hcl : ∀ ty, (Builtin.clear_ #[60] ty #[.slice (some ⟨g, i * 5, none⟩) (j - i) (cap - i)]).run Try.prog wr = .ok (.tuple #[]) (wr.setCells g (i * 5) (zerosT (j - i))) := fun ty => by
          rcases HRM.out.cases with ⟨e, _⟩ | ⟨g', cap', cur, e, e2, h3, h4, h5, h6, h7⟩
          · cases e
          · obtain rfl := Option.some.inj e
            exact run_clear_tn h3 (by rw [h6]; omega) (by omega) ty
        have hzl := zerosT_len (j - i)
        have HR4 := Lib.hid (row_cut (Z := zerosT (j - i)) HRM.out HM.out (show i ≤ j by omega) (by rw [hzl]; omega))
        have HB4 := Lib.hid (HB.out.trans ((stC_fr g (zerosT (j - i)) (i * 5) wr).below HB.out.size (by have := HG.out; simp; omega)))
        have hMf : M.take i = L.filter (fun x => !d x) := by rw [HT.out, HN.out, List.take_length]
        have hMl : (M.take i).length = i := by rw [List.length_take, HM.out]; omega
        have HMF := Lib.hid hMf
        have HML := Lib.hid hMl
        obtain ⟨W4, hW4⟩ : ∃ W4, W4 = wr.setCells g (i * 5) (zerosT (j - i)) := ⟨_, rfl⟩
        rw [← hW4] at HR4 HB4
        simp only [← hW4] at hcl
        have hci : (cap = i) = False := eq_false (by omega)
        have hic : i ≤ j := by omega
        clear hMf hMl hW4 hzl
        go_wp2_with fail
        go_ret
        refine ⟨_, some g, rfl, ?_, (fun g' hg' => by obtain rfl := Option.some.inj hg'; exact HG.out), HB4.out⟩
        rw [← HMF.out, HML.out]
        exact HR4.out
  · have hfl : L.filter (fun x => !d x) = L := List.filter_eq_self.2 (fun x hx => by
      obtain ⟨j, hj, rfl⟩ := List.mem_iff_getElem.1 hx
      have := HF.out j (by rw [HN.out]; exact hj)
      rw [gt_of (List.getElem?_eq_getElem hj)] at this
      rw [this]
      rfl)
    have HFL := Lib.hid hfl
    clear hfl
    go_wp2_with fail
    go_ret
    refine ⟨_, ob, rfl, ?_, HOB.out, H0.out.trans (HB1.out.mono H0.out.size)⟩
    rw [HFL.out, ← HN.out]
    exact HR.out.congr fun g' hg' => HB1.out.block g' (by subst hg'; exact HR.out.lt)
end Go.Proofs.Ytpgpcgpecpimlaa
